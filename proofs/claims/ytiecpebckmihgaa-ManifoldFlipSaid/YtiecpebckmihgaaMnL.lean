/- Laws of chapter 16: the example, ManifoldCircles, ManifoldCirclePolygon. -/
import Derived.Test.YtiecpebckmihgaaMnY
set_option linter.unusedVariables false
namespace Go.Proofs.Ytiecpebckmihgaa
open Go.RowKit Fx

theorem cnts_al {V V' w w' : World} {t : TypeId} {A : Option Addr} {l : List Cnt} (hk : blk w V.heap.size #[.int .i64 0, .int .i64 0, .slice none 0 0] t) (hs : ∀ b, b ≠ V.heap.size → Sm b w w') (h : Cnts w A l) : Cnts w' A l := cnts_keep hk h hs
theorem cnts_al1 {V : World} {t t' : TypeId} {c' : Array Value} {q : Gw} {A : Option Addr} {l : List Cnt} (h : Cnts (gw (V.alloc (.cells #[.int .i64 0, .int .i64 0, .slice none 0 0] t)) q) A l) : Cnts (gw (V.alloc (.cells c' t')) q) A l :=
  cnts_keep (blk_gw (blk_new _ _ _)) h fun b hb => sm_gw (sm_alloc hb)
theorem cnts_al2 {V : World} {t t' : TypeId} {c' : Array Value} {q q' : Gw} {A : Option Addr} {l : List Cnt} (h : Cnts (gw (gw (V.alloc (.cells #[.int .i64 0, .int .i64 0, .slice none 0 0] t)) q) q') A l) : Cnts (gw (gw (V.alloc (.cells c' t')) q) q') A l :=
  cnts_keep (blk_gw (blk_gw (blk_new _ _ _))) h fun b hb => sm_gw (sm_gw (sm_alloc hb))
theorem cnts_al3 {V : World} {t t' : TypeId} {c' : Array Value} {q q' q2 : Gw} {A : Option Addr} {l : List Cnt} (h : Cnts (gw (gw (gw (V.alloc (.cells #[.int .i64 0, .int .i64 0, .slice none 0 0] t)) q) q') q2) A l) : Cnts (gw (gw (gw (V.alloc (.cells c' t')) q) q') q2) A l :=
  cnts_keep (blk_gw (blk_gw (blk_gw (blk_new _ _ _)))) h fun b hb => sm_gw (sm_gw (sm_gw (sm_alloc hb)))

theorem cnts_al4 {V : World} {t t' : TypeId} {c' : Array Value} {q q' q2 : Gw} {A : Option Addr} {l : List Cnt} (h : Cnts (gw (gw (gw (V.alloc (.cells #[.int .i64 0, .int .i64 0, .slice none 0 0] t)).drew q) q') q2) A l) : Cnts (gw (gw (gw (V.alloc (.cells c' t')).drew q) q') q2) A l :=
  cnts_keep (blk_gw (blk_gw (blk_gw (blk_drew (blk_new _ _ _))))) h fun b hb => sm_gw (sm_gw (sm_gw (show Sm b (V.alloc _).drew (V.alloc _).drew from ⟨(sm_alloc (o := .cells #[.int .i64 0, .int .i64 0, .slice none 0 0] t) (o' := .cells c' t') hb).1, (sm_alloc (o := .cells #[.int .i64 0, .int .i64 0, .slice none 0 0] t) (o' := .cells c' t') hb).2⟩)))

theorem ccol_b (r s px py qx qy : Int) (M : Mn) (hM : col 1 r [(0, 0)] px py 0 1 s [(0, 0)] qx qy 0 = M) (A1 A2 : Option Addr) (w : World) (h1 : Pts w A1 [(0, 0)]) (h2 : Pts w A2 [(0, 0)]) : Calls Try.prog 14 #[.agg #[.int .i64 1, .int .i64 r, .slice A1 1 1], .agg #[.int .i64 px, .int .i64 py, .int .i64 0], .agg #[.int .i64 1, .int .i64 s, .slice A2 1 1], .agg #[.int .i64 qx, .int .i64 qy, .int .i64 0]] w (MnT w M (decide (M.l ≠ []))) := by
  subst hM
  exact mcol_b 1 r 1 s A1 A2 1 1 [(0, 0)] [(0, 0)] px py 0 qx qy 0 (by decide) (by decide) (by decide) (by decide) (fun _ _ h _ _ => absurd h (by decide)) w h1 h2

set_option maxHeartbeats 8000000 in
theorem example16_b (w : World) : Calls Try.prog 6 #[] w fun e w' => e = .returned (.bool true) ∧ Below w.heap.size w w' := by
  have cC := circ_b 65536
  have cA : ∀ A1 A2 w', Pts w' A1 [(0, 0)] → Pts w' A2 [(0, 0)] → Calls Try.prog 14 #[.agg #[.int .i64 1, .int .i64 65536, .slice A1 1 1], .agg #[.int .i64 0, .int .i64 0, .int .i64 0], .agg #[.int .i64 1, .int .i64 65536, .slice A2 1 1], .agg #[.int .i64 65536, .int .i64 0, .int .i64 0]] w' fun e w'' => (∃ A' cap', e = .returned (.tuple #[.agg #[.int .i64 65536, .int .i64 0, .slice A' 1 cap'], .bool true]) ∧ Cnts w'' A' [⟨32768, 0, -65536, 0, 0, 0⟩]) ∧ ∃ q, w'' = gw w' q := fun A1 A2 w' h1 h2 => (mnt_ex (ccol_b 65536 65536 0 0 65536 0 _ ex16_a A1 A2 w' h1 h2)).mono fun e w'' ⟨⟨A', cap', h1, _, _, _, h2⟩, h3⟩ => ⟨⟨A', cap', h1, h2⟩, h3⟩
  have cB : ∀ A1 A2 w', Pts w' A1 [(0, 0)] → Pts w' A2 [(0, 0)] → Calls Try.prog 14 #[.agg #[.int .i64 1, .int .i64 65536, .slice A1 1 1], .agg #[.int .i64 0, .int .i64 0, .int .i64 0], .agg #[.int .i64 1, .int .i64 65536, .slice A2 1 1], .agg #[.int .i64 196608, .int .i64 0, .int .i64 0]] w' fun e w'' => (∃ A' cap', e = .returned (.tuple #[.agg #[.int .i64 0, .int .i64 0, .slice A' 0 cap'], .bool false])) ∧ ∃ q, w'' = gw w' q := fun A1 A2 w' h1 h2 => (mnt_ex (ccol_b 65536 65536 0 0 196608 0 _ ex16_b A1 A2 w' h1 h2)).mono fun e w'' ⟨⟨A', cap', h1, _⟩, h3⟩ => ⟨⟨A', cap', h1⟩, h3⟩
  have cE : ∀ A1 c1 A2 w', Cnts w' A1 [⟨32768, 0, -65536, 0, 0, 0⟩] → Cnts w' A2 [⟨32768, 0, -65536, 0, 0, 0⟩] → Calls Try.prog 9 #[.agg #[.int .i64 65536, .int .i64 0, .slice A1 1 c1], .agg #[.int .i64 65536, .int .i64 0, .slice A2 1 1]] w' fun e w'' => e = .returned (.bool true) ∧ Below w'.heap.size w' w'' := fun A1 c1 A2 w' h1 h2 => re16_b 65536 0 A1 c1 [⟨32768, 0, -65536, 0, 0, 0⟩] 65536 0 A2 1 [⟨32768, 0, -65536, 0, 0, 0⟩] (by decide) (by decide) w' h1 h2
  go_enter Try.func6, Try.ntmps6
  go_upto_region 2 with (first | (go_at_call 15; refine Calls.mono (cC _) ?_; rintro e w1 ⟨⟨b1, rfl, hP1⟩, q1, rfl⟩) | (go_at_call 14; refine Calls.mono (cA _ _ _ (Pts.to (by assumption) (by repeat (first | with_reducible exact Below.refl _ _ | with_reducible assumption | refine bgw ?_ (by first | (simp; done) | (simp; omega) | omega) _ | refine Below.setCell ?_ (by first | exact Nat.le_of_not_lt (by assumption) | (simp; done) | (simp; omega) | omega) _ | refine Below.alloc ?_ (by first | (simp; done) | (simp; omega) | omega) _ | refine Below.drew ?_))) (Pts.to (by assumption) (by repeat (first | with_reducible exact Below.refl _ _ | with_reducible assumption | refine bgw ?_ (by first | (simp; done) | (simp; omega) | omega) _ | refine Below.setCell ?_ (by first | exact Nat.le_of_not_lt (by assumption) | (simp; done) | (simp; omega) | omega) _ | refine Below.alloc ?_ (by first | (simp; done) | (simp; omega) | omega) _ | refine Below.drew ?_)))) ?_; rintro e w1 ⟨⟨A5, c5, rfl, hP5⟩, q5, rfl⟩))
  refine wp_named ?_
  intro W hW
  have kM := blk_top hW
  simp at kM
  have hbW : Below w.heap.size w W := by rw [hW]; exact (by repeat (first | with_reducible exact Below.refl _ _ | with_reducible assumption | refine bgw ?_ (by first | (simp; done) | (simp; omega) | omega) _ | refine Below.setCell ?_ (by first | exact Nat.le_of_not_lt (by assumption) | (simp; done) | (simp; omega) | omega) _ | refine Below.alloc ?_ (by first | (simp; done) | (simp; omega) | omega) _ | refine Below.drew ?_))
  have hPW : Cnts W A5 [⟨32768, 0, -65536, 0, 0, 0⟩] := by rw [hW]; exact Cnts.to hP5 (by repeat (first | with_reducible exact Below.refl _ _ | with_reducible assumption | refine bgw ?_ (by first | (simp; done) | (simp; omega) | omega) _ | refine Below.setCell ?_ (by first | exact Nat.le_of_not_lt (by assumption) | (simp; done) | (simp; omega) | omega) _ | refine Below.alloc ?_ (by first | (simp; done) | (simp; omega) | omega) _ | refine Below.drew ?_))
  have hszW := hbW.size
  clear hW hP5 cA
  have okM := blk_older kM
  have ckM_0 : _ = some _ := blk_cell kM 0
  have ckM_1 : _ = some _ := blk_cell kM 1
  have ckM_2 : _ = some _ := blk_cell kM 2
  have fkM_0 := blk_free kM 0
  have fkM_1 := blk_free kM 1
  have fkM_2 := blk_free kM 2
  go_wp2_with (first | (go_at_call 15; refine Calls.mono (cC _) ?_; rintro e w1 ⟨⟨b2, rfl, hP2⟩, q2, rfl⟩) | (go_at_call 14; refine Calls.mono (cB _ _ _ (Pts.to (by assumption) (by repeat (first | with_reducible exact Below.refl _ _ | with_reducible assumption | refine bgw ?_ (by first | (simp; done) | (simp; omega) | omega) _ | refine Below.setCell ?_ (by first | exact Nat.le_of_not_lt (by assumption) | (simp; done) | (simp; omega) | omega) _ | refine Below.alloc ?_ (by first | (simp; done) | (simp; omega) | omega) _ | refine Below.drew ?_))) (Pts.to (by assumption) (by repeat (first | with_reducible exact Below.refl _ _ | with_reducible assumption | refine bgw ?_ (by first | (simp; done) | (simp; omega) | omega) _ | refine Below.setCell ?_ (by first | exact Nat.le_of_not_lt (by assumption) | (simp; done) | (simp; omega) | omega) _ | refine Below.alloc ?_ (by first | (simp; done) | (simp; omega) | omega) _ | refine Below.drew ?_)))) ?_; rintro e w1 ⟨⟨A6, c6, rfl⟩, q6, rfl⟩) | (go_at_call 9; refine Calls.mono (gw_at (cE _ _ _ _ (Cnts.to hPW (by repeat (first | with_reducible exact Below.refl _ _ | with_reducible assumption | refine bgw ?_ (by first | (simp; done) | (simp; omega) | omega) _ | refine Below.setCell ?_ (by first | exact Nat.le_of_not_lt (by assumption) | (simp; done) | (simp; omega) | omega) _ | refine Below.alloc ?_ (by first | (simp; done) | (simp; omega) | omega) _ | refine Below.drew ?_))) (cnts_one (t := 31) (by show blk _ _ #[.int .i64 32768, .int .i64 0, .int .i64 (-65536), .int .i64 0, .int .i64 0, .int .i64 0] _; exact (by repeat (first | with_reducible exact blk_new _ _ _ | ((with_reducible refine blk_at ?_); (simp; done)) | with_reducible apply blk_alloc | with_reducible apply blk_gw | with_reducible apply blk_drew)))))) ?_; rintro e w1 ⟨rfl, q7, rfl⟩))
  go_ret
  exact ⟨rfl, (by repeat (first | with_reducible exact Below.refl _ _ | with_reducible assumption | refine bgw ?_ (by first | (simp; done) | (simp; omega) | omega) _ | refine Below.setCell ?_ (by first | exact Nat.le_of_not_lt (by assumption) | (simp; done) | (simp; omega) | omega) _ | refine Below.alloc ?_ (by first | (simp; done) | (simp; omega) | omega) _ | refine Below.drew ?_))⟩

set_option maxRecDepth 100000 in
set_option maxHeartbeats 16000000 in
theorem walk_ManifoldCircles (r s px py qx qy : Int) (w : World) : Calls Try.prog 5 #[.int .i64 r, .int .i64 s, .agg #[.int .i64 px, .int .i64 py], .agg #[.int .i64 qx, .int .i64 qy]] w fun e w' => e = .returned (.bool true) ∧ Below w.heap.size w w' := by
  have e0 := example16_b
  have hcs : (r < 2048 ∨ (¬ r < 2048 ∧ 524288 < r) ∨ (¬ r < 2048 ∧ ¬ 524288 < r ∧ s < 2048) ∨ (¬ r < 2048 ∧ ¬ 524288 < r ∧ ¬ s < 2048 ∧ 524288 < s)) ∨ (¬ r < 2048 ∧ ¬ 524288 < r ∧ ¬ s < 2048 ∧ ¬ 524288 < s) := by omega
  rcases hcs with hcs | ⟨r0, r1, s0, s1⟩
  · rcases hcs with c | ⟨c, d⟩ | ⟨c, d, f⟩ | ⟨c, d, f, g⟩
    all_goals
      go_enter Try.func5, Try.ntmps5
      go_wp2_with (go_at_call 6; refine Calls.mono (gw_at (e0 _)) ?_; rintro e w1 ⟨rfl, q, rfl⟩)
      go_ret
      exact ⟨rfl, (by repeat (first | with_reducible exact Below.refl _ _ | with_reducible assumption | refine bgw ?_ (by first | (simp; done) | (simp; omega) | omega) _ | refine Below.setCell ?_ (by first | exact Nat.le_of_not_lt (by assumption) | (simp; done) | (simp; omega) | omega) _ | refine Below.alloc ?_ (by first | (simp; done) | (simp; omega) | omega) _ | refine Below.drew ?_))⟩
  obtain ⟨hN, hY⟩ := col_circ (px := px) (py := py) (qx := qx) (qy := qy) 0 0 (show 2048 ≤ r ∧ r ≤ 524288 by omega) (show 2048 ≤ s ∧ s ≤ 524288 by omega)
  have cX := fun M hM A1 A2 w' h1 h2 => mnt_ex (ccol_b r s px py qx qy M hM A1 A2 w' h1 h2)
  have cC := circ_b r
  have cD := circ_b s
  have c1 := fun w' => vsub_b qx qy px py w'
  have c2 := fun w' => vlen_b (sub qx px) (sub qy py) w'
  have c3 := fun w' => sub_b (vlen (sub qx px) (sub qy py)) r w'
  have c4 := fun w' => sub_b (sub (vlen (sub qx px) (sub qy py)) r) s w'
  generalize sub (sub (vlen (sub qx px) (sub qy py)) r) s = G at *
  generalize sub (vlen (sub qx px) (sub qy py)) r = l1 at *
  generalize vlen (sub qx px) (sub qy py) = l0 at *
  generalize sub qx px = dx at *
  generalize sub qy py = dy at *
  by_cases hG : 1024 < G
  · have hg : decide (G ≤ 1024) = false := decide_eq_false (by omega)
    have cA : ∀ A1 A2 w', Pts w' A1 [(0, 0)] → Pts w' A2 [(0, 0)] → Calls Try.prog 14 #[.agg #[.int .i64 1, .int .i64 r, .slice A1 1 1], .agg #[.int .i64 px, .int .i64 py, .int .i64 0], .agg #[.int .i64 1, .int .i64 s, .slice A2 1 1], .agg #[.int .i64 qx, .int .i64 qy, .int .i64 0]] w' fun e w'' => (∃ A' cap', e = .returned (.tuple #[.agg #[.int .i64 0, .int .i64 0, .slice A' 0 cap'], .bool false])) ∧ ∃ q, w'' = gw w' q := fun A1 A2 w' h1 h2 => (cX _ (hN hG) A1 A2 w' h1 h2).mono fun e w'' ⟨⟨A', cap', h1, _⟩, h3⟩ => ⟨⟨A', cap', h1⟩, h3⟩
    clear cX hN hY hG
    go_enter Try.func5, Try.ntmps5
    go_upto_region 3 with fail
    refine wp_named ?_
    intro W hW
    have kP : blk W w.heap.size #[.int .i64 px, .int .i64 py] 23 := by rw [hW]; exact (by repeat (first | with_reducible exact blk_new _ _ _ | ((with_reducible refine blk_at ?_); (simp; done)) | with_reducible apply blk_alloc | with_reducible apply blk_gw | with_reducible apply blk_drew))
    have kQ : blk W (w.heap.size + 1) #[.int .i64 qx, .int .i64 qy] 23 := by rw [hW]; exact (by repeat (first | with_reducible exact blk_new _ _ _ | ((with_reducible refine blk_at ?_); (simp; done)) | with_reducible apply blk_alloc | with_reducible apply blk_gw | with_reducible apply blk_drew))
    have hbW : Below w.heap.size w W := by rw [hW]; exact (by repeat (first | with_reducible exact Below.refl _ _ | with_reducible assumption | refine bgw ?_ (by first | (simp; done) | (simp; omega) | omega) _ | refine Below.setCell ?_ (by first | exact Nat.le_of_not_lt (by assumption) | (simp; done) | (simp; omega) | omega) _ | refine Below.alloc ?_ (by first | (simp; done) | (simp; omega) | omega) _ | refine Below.drew ?_))
    clear hW r0 r1 s0 s1
    have hszW := hbW.size
    have hcellB : ∀ w', Below W.heap.size W w' → Below W.heap.size W w' ∧ w'.cell? ⟨w.heap.size, 0, none⟩ = some (.int .i64 px) ∧ w'.cell? ⟨w.heap.size, 1, none⟩ = some (.int .i64 py) ∧ w'.cell? ⟨w.heap.size + 1, 0, none⟩ = some (.int .i64 qx) ∧ w'.cell? ⟨w.heap.size + 1, 1, none⟩ = some (.int .i64 qy) := fun w' h => ⟨h, (h.cell (p := ⟨w.heap.size, 0, none⟩) (blk_lt kP)).trans (blk_cell kP 0), (h.cell (p := ⟨w.heap.size, 1, none⟩) (blk_lt kP)).trans (blk_cell kP 1), (h.cell (p := ⟨w.heap.size + 1, 0, none⟩) (blk_lt kQ)).trans (blk_cell kQ 0), (h.cell (p := ⟨w.heap.size + 1, 1, none⟩) (blk_lt kQ)).trans (blk_cell kQ 1)⟩
    go_cut [9, 10] (fun mm ok wx => ∃ (M : Nat) (A' : Option Addr) (cap' : Nat), mm = .pointer (some ⟨M, 0, none⟩) ∧ ok = .bool false ∧ W.heap.size ≤ M ∧ blk wx M #[.int .i64 0, .int .i64 0, .slice A' 0 cap'] 26 ∧ Below W.heap.size W wx)
    case first =>
      go_region_held3 (fun w' => Below W.heap.size W w' ∧ w'.cell? ⟨w.heap.size, 0, none⟩ = some (.int .i64 px) ∧ w'.cell? ⟨w.heap.size, 1, none⟩ = some (.int .i64 py) ∧ w'.cell? ⟨w.heap.size + 1, 0, none⟩ = some (.int .i64 qx) ∧ w'.cell? ⟨w.heap.size + 1, 1, none⟩ = some (.int .i64 qy)) (first | (refine hcellB _ ?_; exact (by repeat (first | with_reducible exact Below.refl _ _ | with_reducible assumption | refine bgw ?_ (by first | (simp; done) | (simp; omega) | omega) _ | refine Below.setCell ?_ (by first | exact Nat.le_of_not_lt (by assumption) | (simp; done) | (simp; omega) | omega) _ | refine Below.alloc ?_ (by first | (simp; done) | (simp; omega) | omega) _ | refine Below.drew ?_)))) (first | (go_at_call 15; (with_reducible show Calls _ _ #[.int .i64 r] _ _); refine Calls.mono (cC _) ?_; rintro e w1 ⟨⟨b1, rfl, hP1⟩, q1, rfl⟩) | (go_at_call 15; (with_reducible show Calls _ _ #[.int .i64 s] _ _); refine Calls.mono (cD _) ?_; rintro e w1 ⟨⟨b2, rfl, hP2⟩, q2, rfl⟩) | (go_at_call 14; refine Calls.mono (cA _ _ _ (Pts.to hP1 (by repeat (first | with_reducible exact Below.refl _ _ | with_reducible assumption | refine bgw ?_ (by first | (simp; done) | (simp; omega) | omega) _ | refine Below.setCell ?_ (by first | exact Nat.le_of_not_lt (by assumption) | (simp; done) | (simp; omega) | omega) _ | refine Below.alloc ?_ (by first | (simp; done) | (simp; omega) | omega) _ | refine Below.drew ?_))) (Pts.to hP2 (by repeat (first | with_reducible exact Below.refl _ _ | with_reducible assumption | refine bgw ?_ (by first | (simp; done) | (simp; omega) | omega) _ | refine Below.setCell ?_ (by first | exact Nat.le_of_not_lt (by assumption) | (simp; done) | (simp; omega) | omega) _ | refine Below.alloc ?_ (by first | (simp; done) | (simp; omega) | omega) _ | refine Below.drew ?_)))) ?_; rintro e w1 ⟨⟨A5, c5, rfl⟩, q5, rfl⟩))
      all_goals
        go_wp2_with fail
      all_goals
        go_meet
        exact ⟨_, _, _, rfl, rfl, by (try simp); (try omega), (by first | exact (by repeat (first | with_reducible exact blk_new _ _ _ | ((with_reducible refine blk_at ?_); (simp; done)) | with_reducible apply blk_alloc | with_reducible apply blk_gw | with_reducible apply blk_drew)) | (apply blk_of; (repeat (first | with_reducible apply blk_set | with_reducible apply blk_gw | with_reducible apply blk_drew | with_reducible apply blk_alloc | with_reducible exact blk_new _ _ _ | ((with_reducible refine blk_at ?_); (simp; done)))); (first | rfl | simp))), (by repeat (first | with_reducible exact Below.refl _ _ | with_reducible assumption | refine bgw ?_ (by first | (simp; done) | (simp; omega) | omega) _ | refine Below.setCell ?_ (by first | exact Nat.le_of_not_lt (by assumption) | (simp; done) | (simp; omega) | omega) _ | refine Below.alloc ?_ (by first | (simp; done) | (simp; omega) | omega) _ | refine Below.drew ?_))⟩
    case rest =>
    obtain ⟨M, A5, c5, rfl, rfl, nM, kM, hbX⟩ := hcut
    generalize wc = X at *
    have kP1 := blk_below hbX kP
    have kQ1 := blk_below hbX kQ
    have hbX2 : Below w.heap.size w X := Below.trans hbW (hbX.mono hszW)
    clear hcellB kP kQ hbX hbW cA cC cD
    have hszX := hbX2.size
    have okM := blk_older kM
    have ckM_0 : _ = some _ := blk_cell kM 0
    have ckM_1 : _ = some _ := blk_cell kM 1
    have ckM_2 : _ = some _ := blk_cell kM 2
    have fkM_0 := blk_free kM 0
    have fkM_1 := blk_free kM 1
    have fkM_2 := blk_free kM 2
    have okP1 := blk_older kP1
    have ckP1_0 : _ = some _ := blk_cell kP1 0
    have ckP1_1 : _ = some _ := blk_cell kP1 1
    have fkP1_0 := blk_free kP1 0
    have fkP1_1 := blk_free kP1 1
    have okQ1 := blk_older kQ1
    have ckQ1_0 : _ = some _ := blk_cell kQ1 0
    have ckQ1_1 : _ = some _ := blk_cell kQ1 1
    have fkQ1_0 := blk_free kQ1 0
    have fkQ1_1 := blk_free kQ1 1
    go_wp2_with (first | (go_at_call 18; refine Calls.mono (gw_at (c1 _)) ?_; rintro e w1 ⟨rfl, q, rfl⟩) | (go_at_call 17; refine Calls.mono (gw_at (c2 _)) ?_; rintro e w1 ⟨rfl, q, rfl⟩) | (go_at_call 16; (with_reducible show Calls _ _ #[.int .i64 l0, _] _ _); refine Calls.mono (gw_at (c3 _)) ?_; rintro e w1 ⟨rfl, q, rfl⟩) | (go_at_call 16; (with_reducible show Calls _ _ #[.int .i64 l1, _] _ _); refine Calls.mono (gw_at (c4 _)) ?_; rintro e w1 ⟨rfl, q, rfl⟩) | (go_at_call 6; refine Calls.mono (gw_at (e0 _)) ?_; rintro e w1 ⟨rfl, q, rfl⟩))
    go_ret
    exact ⟨rfl, (by repeat (first | with_reducible exact Below.refl _ _ | with_reducible assumption | refine bgw ?_ (by first | (simp; done) | (simp; omega) | omega) _ | refine Below.setCell ?_ (by first | exact Nat.le_of_not_lt (by assumption) | (simp; done) | (simp; omega) | omega) _ | refine Below.alloc ?_ (by first | (simp; done) | (simp; omega) | omega) _ | refine Below.drew ?_))⟩
  · obtain ⟨nx, ny, x, y, hM⟩ := hY hG
    have hg : decide (G ≤ 1024) = true := decide_eq_true (by omega)
    have cA : ∀ A1 A2 w', Pts w' A1 [(0, 0)] → Pts w' A2 [(0, 0)] → Calls Try.prog 14 #[.agg #[.int .i64 1, .int .i64 r, .slice A1 1 1], .agg #[.int .i64 px, .int .i64 py, .int .i64 0], .agg #[.int .i64 1, .int .i64 s, .slice A2 1 1], .agg #[.int .i64 qx, .int .i64 qy, .int .i64 0]] w' fun e w'' => (∃ A' cap', e = .returned (.tuple #[.agg #[.int .i64 nx, .int .i64 ny, .slice A' 1 cap'], .bool true]) ∧ Cnts w'' A' [⟨x, y, G, 0, 0, 0⟩]) ∧ ∃ q, w'' = gw w' q := fun A1 A2 w' h1 h2 => (cX _ hM A1 A2 w' h1 h2).mono fun e w'' ⟨⟨A', cap', h1, _, _, _, h2⟩, h3⟩ => ⟨⟨A', cap', h1, h2⟩, h3⟩
    clear cX hN hY hM hG
    go_enter Try.func5, Try.ntmps5
    go_upto_region 3 with fail
    refine wp_named ?_
    intro W hW
    have kP : blk W w.heap.size #[.int .i64 px, .int .i64 py] 23 := by rw [hW]; exact (by repeat (first | with_reducible exact blk_new _ _ _ | ((with_reducible refine blk_at ?_); (simp; done)) | with_reducible apply blk_alloc | with_reducible apply blk_gw | with_reducible apply blk_drew))
    have kQ : blk W (w.heap.size + 1) #[.int .i64 qx, .int .i64 qy] 23 := by rw [hW]; exact (by repeat (first | with_reducible exact blk_new _ _ _ | ((with_reducible refine blk_at ?_); (simp; done)) | with_reducible apply blk_alloc | with_reducible apply blk_gw | with_reducible apply blk_drew))
    have hbW : Below w.heap.size w W := by rw [hW]; exact (by repeat (first | with_reducible exact Below.refl _ _ | with_reducible assumption | refine bgw ?_ (by first | (simp; done) | (simp; omega) | omega) _ | refine Below.setCell ?_ (by first | exact Nat.le_of_not_lt (by assumption) | (simp; done) | (simp; omega) | omega) _ | refine Below.alloc ?_ (by first | (simp; done) | (simp; omega) | omega) _ | refine Below.drew ?_))
    clear hW r0 r1 s0 s1
    have hszW := hbW.size
    have hcellB : ∀ w', Below W.heap.size W w' → Below W.heap.size W w' ∧ w'.cell? ⟨w.heap.size, 0, none⟩ = some (.int .i64 px) ∧ w'.cell? ⟨w.heap.size, 1, none⟩ = some (.int .i64 py) ∧ w'.cell? ⟨w.heap.size + 1, 0, none⟩ = some (.int .i64 qx) ∧ w'.cell? ⟨w.heap.size + 1, 1, none⟩ = some (.int .i64 qy) := fun w' h => ⟨h, (h.cell (p := ⟨w.heap.size, 0, none⟩) (blk_lt kP)).trans (blk_cell kP 0), (h.cell (p := ⟨w.heap.size, 1, none⟩) (blk_lt kP)).trans (blk_cell kP 1), (h.cell (p := ⟨w.heap.size + 1, 0, none⟩) (blk_lt kQ)).trans (blk_cell kQ 0), (h.cell (p := ⟨w.heap.size + 1, 1, none⟩) (blk_lt kQ)).trans (blk_cell kQ 1)⟩
    go_cut [9, 10] (fun mm ok wx => ∃ (M : Nat) (A' : Option Addr) (cap' : Nat), mm = .pointer (some ⟨M, 0, none⟩) ∧ ok = .bool true ∧ W.heap.size ≤ M ∧ blk wx M #[.int .i64 nx, .int .i64 ny, .slice A' 1 cap'] 26 ∧ Below W.heap.size W wx ∧ Cnts wx A' [⟨x, y, G, 0, 0, 0⟩])
    case first =>
      go_region_held3 (fun w' => Below W.heap.size W w' ∧ w'.cell? ⟨w.heap.size, 0, none⟩ = some (.int .i64 px) ∧ w'.cell? ⟨w.heap.size, 1, none⟩ = some (.int .i64 py) ∧ w'.cell? ⟨w.heap.size + 1, 0, none⟩ = some (.int .i64 qx) ∧ w'.cell? ⟨w.heap.size + 1, 1, none⟩ = some (.int .i64 qy)) (first | (refine hcellB _ ?_; exact (by repeat (first | with_reducible exact Below.refl _ _ | with_reducible assumption | refine bgw ?_ (by first | (simp; done) | (simp; omega) | omega) _ | refine Below.setCell ?_ (by first | exact Nat.le_of_not_lt (by assumption) | (simp; done) | (simp; omega) | omega) _ | refine Below.alloc ?_ (by first | (simp; done) | (simp; omega) | omega) _ | refine Below.drew ?_)))) (first | (go_at_call 15; (with_reducible show Calls _ _ #[.int .i64 r] _ _); refine Calls.mono (cC _) ?_; rintro e w1 ⟨⟨b1, rfl, hP1⟩, q1, rfl⟩) | (go_at_call 15; (with_reducible show Calls _ _ #[.int .i64 s] _ _); refine Calls.mono (cD _) ?_; rintro e w1 ⟨⟨b2, rfl, hP2⟩, q2, rfl⟩) | (go_at_call 14; refine Calls.mono (cA _ _ _ (Pts.to hP1 (by repeat (first | with_reducible exact Below.refl _ _ | with_reducible assumption | refine bgw ?_ (by first | (simp; done) | (simp; omega) | omega) _ | refine Below.setCell ?_ (by first | exact Nat.le_of_not_lt (by assumption) | (simp; done) | (simp; omega) | omega) _ | refine Below.alloc ?_ (by first | (simp; done) | (simp; omega) | omega) _ | refine Below.drew ?_))) (Pts.to hP2 (by repeat (first | with_reducible exact Below.refl _ _ | with_reducible assumption | refine bgw ?_ (by first | (simp; done) | (simp; omega) | omega) _ | refine Below.setCell ?_ (by first | exact Nat.le_of_not_lt (by assumption) | (simp; done) | (simp; omega) | omega) _ | refine Below.alloc ?_ (by first | (simp; done) | (simp; omega) | omega) _ | refine Below.drew ?_)))) ?_; rintro e w1 ⟨⟨A5, c5, rfl, hP5⟩, q5, rfl⟩))
      all_goals
        go_wp2_with fail
      all_goals
        go_meet
        exact ⟨_, _, _, rfl, rfl, by (try simp); (try omega), (by first | exact (by repeat (first | with_reducible exact blk_new _ _ _ | ((with_reducible refine blk_at ?_); (simp; done)) | with_reducible apply blk_alloc | with_reducible apply blk_gw | with_reducible apply blk_drew)) | (apply blk_of; (repeat (first | with_reducible apply blk_set | with_reducible apply blk_gw | with_reducible apply blk_drew | with_reducible apply blk_alloc | with_reducible exact blk_new _ _ _ | ((with_reducible refine blk_at ?_); (simp; done)))); (first | rfl | simp))), (by repeat (first | with_reducible exact Below.refl _ _ | with_reducible assumption | refine bgw ?_ (by first | (simp; done) | (simp; omega) | omega) _ | refine Below.setCell ?_ (by first | exact Nat.le_of_not_lt (by assumption) | (simp; done) | (simp; omega) | omega) _ | refine Below.alloc ?_ (by first | (simp; done) | (simp; omega) | omega) _ | refine Below.drew ?_)), (by first | exact Cnts.to hP5 (Below.alloc (Below.refl _ _) (Nat.le_refl _) _) | exact cnts_al1 hP5 | exact cnts_al2 hP5 | exact cnts_al3 hP5 | exact cnts_al4 hP5)⟩
    case rest =>
    obtain ⟨M, A5, c5, rfl, rfl, nM, kM, hbX, hP5⟩ := hcut
    generalize wc = X at *
    have kP1 := blk_below hbX kP
    have kQ1 := blk_below hbX kQ
    have hbX2 : Below w.heap.size w X := Below.trans hbW (hbX.mono hszW)
    clear hcellB kP kQ hbX hbW cA cC cD
    have hszX := hbX2.size
    obtain ⟨b5, o5, rfl, hc5⟩ := cnts_open hP5 (by simp)
    obtain ⟨-, -, d2, d3, -, -⟩ := hc5 0 (by simp) _ (Below.refl _ _)
    rw [Nat.zero_mul, Nat.add_zero] at d2 d3
    dsimp only [List.getElem_cons_zero] at d2 d3
    have od := older_of_cell d2
    clear hc5 hP5
    have okM := blk_older kM
    have ckM_0 : _ = some _ := blk_cell kM 0
    have ckM_1 : _ = some _ := blk_cell kM 1
    have ckM_2 : _ = some _ := blk_cell kM 2
    have fkM_0 := blk_free kM 0
    have fkM_1 := blk_free kM 1
    have fkM_2 := blk_free kM 2
    have okP1 := blk_older kP1
    have ckP1_0 : _ = some _ := blk_cell kP1 0
    have ckP1_1 : _ = some _ := blk_cell kP1 1
    have fkP1_0 := blk_free kP1 0
    have fkP1_1 := blk_free kP1 1
    have okQ1 := blk_older kQ1
    have ckQ1_0 : _ = some _ := blk_cell kQ1 0
    have ckQ1_1 : _ = some _ := blk_cell kQ1 1
    have fkQ1_0 := blk_free kQ1 0
    have fkQ1_1 := blk_free kQ1 1
    go_wp2_with (first | (go_at_call 18; refine Calls.mono (gw_at (c1 _)) ?_; rintro e w1 ⟨rfl, q, rfl⟩) | (go_at_call 17; refine Calls.mono (gw_at (c2 _)) ?_; rintro e w1 ⟨rfl, q, rfl⟩) | (go_at_call 16; (with_reducible show Calls _ _ #[.int .i64 l0, _] _ _); refine Calls.mono (gw_at (c3 _)) ?_; rintro e w1 ⟨rfl, q, rfl⟩) | (go_at_call 16; (with_reducible show Calls _ _ #[.int .i64 l1, _] _ _); refine Calls.mono (gw_at (c4 _)) ?_; rintro e w1 ⟨rfl, q, rfl⟩) | (go_at_call 6; refine Calls.mono (gw_at (e0 _)) ?_; rintro e w1 ⟨rfl, q, rfl⟩))
    go_ret
    exact ⟨rfl, (by repeat (first | with_reducible exact Below.refl _ _ | with_reducible assumption | refine bgw ?_ (by first | (simp; done) | (simp; omega) | omega) _ | refine Below.setCell ?_ (by first | exact Nat.le_of_not_lt (by assumption) | (simp; done) | (simp; omega) | omega) _ | refine Below.alloc ?_ (by first | (simp; done) | (simp; omega) | omega) _ | refine Below.drew ?_))⟩

set_option maxHeartbeats 4000000 in
theorem few_b (Ka Ra Kb Rb : Int) (A B_ : Option Addr) (ca cb : Nat) (ps qs : List (Int × Int)) (w : World) : Calls Try.prog 13 #[.agg #[.int .i64 Ka, .int .i64 Ra, .slice A ps.length ca], .agg #[.int .i64 Kb, .int .i64 Rb, .slice B_ qs.length cb]] w fun e w' => e = .returned (.bool (decide (ps.length ≤ 20 ∧ qs.length ≤ 20))) ∧ Below w.heap.size w w' := by
  by_cases c1 : (ps.length : Int) ≤ 20
  · by_cases c2 : (qs.length : Int) ≤ 20
    · rw [show decide (ps.length ≤ 20 ∧ qs.length ≤ 20) = true from decide_eq_true ⟨by omega, by omega⟩]
      go_enter Try.func13, Try.ntmps13
      go_wp2_with fail
      all_goals (go_ret; refine ⟨?_, (by repeat (first | with_reducible exact Below.refl _ _ | with_reducible assumption | refine bgw ?_ (by first | (simp; done) | (simp; omega) | omega) _ | refine Below.setCell ?_ (by first | exact Nat.le_of_not_lt (by assumption) | (simp; done) | (simp; omega) | omega) _ | refine Below.alloc ?_ (by first | (simp; done) | (simp; omega) | omega) _ | refine Below.drew ?_))⟩; first | rfl | (simp; done) | (simp; omega) | (simp; rw [Bool.eq_iff_iff]; first | (simp; done) | (simp; omega)))
    · rw [show decide (ps.length ≤ 20 ∧ qs.length ≤ 20) = false from decide_eq_false (by omega)]
      go_enter Try.func13, Try.ntmps13
      go_wp2_with fail
      all_goals (go_ret; refine ⟨?_, (by repeat (first | with_reducible exact Below.refl _ _ | with_reducible assumption | refine bgw ?_ (by first | (simp; done) | (simp; omega) | omega) _ | refine Below.setCell ?_ (by first | exact Nat.le_of_not_lt (by assumption) | (simp; done) | (simp; omega) | omega) _ | refine Below.alloc ?_ (by first | (simp; done) | (simp; omega) | omega) _ | refine Below.drew ?_))⟩; first | rfl | (simp; done) | (simp; omega) | (simp; rw [Bool.eq_iff_iff]; first | (simp; done) | (simp; omega)))
  · rw [show decide (ps.length ≤ 20 ∧ qs.length ≤ 20) = false from decide_eq_false (by omega)]
    go_enter Try.func13, Try.ntmps13
    go_wp2_with fail
    all_goals (go_ret; refine ⟨?_, (by repeat (first | with_reducible exact Below.refl _ _ | with_reducible assumption | refine bgw ?_ (by first | (simp; done) | (simp; omega) | omega) _ | refine Below.setCell ?_ (by first | exact Nat.le_of_not_lt (by assumption) | (simp; done) | (simp; omega) | omega) _ | refine Below.alloc ?_ (by first | (simp; done) | (simp; omega) | omega) _ | refine Below.drew ?_))⟩; first | rfl | (simp; done) | (simp; omega) | (simp; rw [Bool.eq_iff_iff]; first | (simp; done) | (simp; omega)))

end Go.Proofs.Ytiecpebckmihgaa
