/- Laws of chapter 12: the example, ShapeValidateExact, ShapeContainsExact, ShapeGeometryExact. -/
import Derived.Test.YtihfmaaacekalaaGreatCoD
set_option linter.unusedVariables false
namespace Go.Proofs.YtihfmaaacekalaaGreat
open Go.RowKit Fx

theorem rotx_00 (c s : Int) : rotx c s 0 0 = 0 := by unfold rotx; rw [show sat 0 = 0 from rfl, Int.mul_zero, Int.mul_zero, Int.sub_zero, rdiv_zero0]; rfl
theorem roty_00 (c s : Int) : roty c s 0 0 = 0 := by unfold roty; rw [show sat 0 = 0 from rfl, Int.mul_zero, Int.mul_zero, Int.add_zero, rdiv_zero0]; rfl
theorem tr_00 (a : Int) : tr 0 0 a (0, 0) = (0, 0) := by unfold tr tpx tpy; dsimp only; rw [rotx_00, roty_00]; rfl
theorem ex12_val : valS 1 65536 [(0, 0)] = 0 := by decide +kernel
theorem ex12_bnd : bndS 1 65536 [(0, 0)] 0 0 102944 = ⟨-65536, -65536, 65536, 65536⟩ := by
  unfold bndS; rw [if_pos ex12_val, List.map_cons, List.map_nil, tr_00]; decide +kernel
theorem ex12_brad : bradS 1 65536 [(0, 0)] = 65536 := by unfold bradS; rw [if_pos ex12_val]; decide +kernel
theorem ex12_con : conS 1 65536 [(0, 0)] 0 0 0 65536 0 = true := by
  unfold conS conC; rw [ex12_val, List.map_cons, List.map_nil, tr_00, if_pos rfl]
  have e : vlen (sub 65536 (hp' [((0 : Int), (0 : Int))] 0).1) (sub 0 (hp' [((0 : Int), (0 : Int))] 0).2) = 65536 := by
    show vlen 65536 0 = 65536
    unfold vlen
    exact isq_eq (by decide) (by decide) (by decide) (by decide) (by decide)
  rw [e]; rfl

theorem rfew_b (K R : Int) (A : Option Addr) (n cap : Nat) (w : World) : Calls Tryz.prog 5 #[.agg #[.int .i64 K, .int .i64 R, .slice A n cap]] w fun e w' => e = .returned (.bool (decide ((n : Int) ≤ 20))) ∧ Below w.heap.size w w' := by
  by_cases h : (n : Int) ≤ 20
  · rw [decide_eq_true h]
    go_enter Tryz.func5, Tryz.ntmps5
    go_wp2_with fail
    go_ret
    exact ⟨rfl, (by repeat (first | with_reducible exact Below.refl _ _ | with_reducible assumption | refine bgw ?_ (by first | (simp; done) | (simp; omega) | omega) _ | refine Below.setCell ?_ (by first | exact Nat.le_of_not_lt (by assumption) | (simp; done) | (simp; omega) | omega) _ | refine Below.alloc ?_ (by first | (simp; done) | (simp; omega) | omega) _ | refine Below.drew ?_))⟩
  · rw [decide_eq_false h]
    go_enter Tryz.func5, Tryz.ntmps5
    go_wp2_with fail
    go_ret
    exact ⟨rfl, (by repeat (first | with_reducible exact Below.refl _ _ | with_reducible assumption | refine bgw ?_ (by first | (simp; done) | (simp; omega) | omega) _ | refine Below.setCell ?_ (by first | exact Nat.le_of_not_lt (by assumption) | (simp; done) | (simp; omega) | omega) _ | refine Below.alloc ?_ (by first | (simp; done) | (simp; omega) | omega) _ | refine Below.drew ?_))⟩

theorem example12_b (w : World) : Calls Tryz.prog 6 #[] w fun e w' => e = .returned (.bool true) ∧ Below w.heap.size w w' := by
  have cV : ∀ b w', Pts w' (some ⟨b, 0, none⟩) [(0, 0)] → Calls Tryz.prog 18 #[.agg #[.int .i64 1, .int .i64 65536, .slice (some ⟨b, 0, none⟩) 1 1]] w' fun e w'' => e = .returned (.int .i64 0) ∧ Below w'.heap.size w' w'' := fun b w' h => by
    have := yval_b 1 65536 (some ⟨b, 0, none⟩) 1 [(0, 0)] (by decide) w' h; rw [ex12_val] at this; exact this
  have cB : ∀ b w', Pts w' (some ⟨b, 0, none⟩) [(0, 0)] → Calls Tryz.prog 10 #[.agg #[.int .i64 1, .int .i64 65536, .slice (some ⟨b, 0, none⟩) 1 1], .agg #[.int .i64 0, .int .i64 0, .int .i64 102944]] w' fun e w'' => e = .returned (.agg #[.int .i64 (-65536), .int .i64 (-65536), .int .i64 65536, .int .i64 65536]) ∧ Below w'.heap.size w' w'' := fun b w' h => by
    have := ybnd_b 1 65536 (some ⟨b, 0, none⟩) 1 [(0, 0)] 0 0 102944 (by decide) w' h; rw [ex12_bnd] at this; exact this
  have cR : ∀ b w', Pts w' (some ⟨b, 0, none⟩) [(0, 0)] → Calls Tryz.prog 14 #[.agg #[.int .i64 1, .int .i64 65536, .slice (some ⟨b, 0, none⟩) 1 1]] w' fun e w'' => e = .returned (.int .i64 65536) ∧ Below w'.heap.size w' w'' := fun b w' h => by
    have := ybr_b 1 65536 (some ⟨b, 0, none⟩) 1 [(0, 0)] (by decide) w' h; rw [ex12_brad] at this; exact this
  have cC : ∀ b w', Pts w' (some ⟨b, 0, none⟩) [(0, 0)] → Calls Tryz.prog 16 #[.agg #[.int .i64 1, .int .i64 65536, .slice (some ⟨b, 0, none⟩) 1 1], .agg #[.int .i64 0, .int .i64 0, .int .i64 0], .agg #[.int .i64 65536, .int .i64 0]] w' fun e w'' => e = .returned (.bool true) ∧ Below w'.heap.size w' w'' := fun b w' h => by
    have := ycon_b 1 65536 (some ⟨b, 0, none⟩) 1 [(0, 0)] 0 0 0 65536 0 (by decide) w' h; rw [ex12_con] at this; exact this
  go_enter Tryz.func6, Tryz.ntmps6
  go_upto_region 2 with fail
  refine wp_named ?_
  intro W hW
  have hP : Pts W (some ⟨w.heap.size, 0, none⟩) [(0, 0)] := by rw [hW]; exact pts_of_list (t := 27) (ps := [(0, 0)]) (by show blk _ _ #[.int .i64 0, .int .i64 0] _; exact (by repeat (first | with_reducible exact blk_new _ _ _ | ((with_reducible refine blk_at ?_); (simp; done)) | with_reducible apply blk_alloc | with_reducible apply blk_gw | with_reducible apply blk_drew)))
  have kS : blk W (w.heap.size + 1) #[.int .i64 1, .int .i64 65536, .slice (some ⟨w.heap.size, 0, none⟩) 1 1] 25 := by rw [hW]; exact (by repeat (first | with_reducible exact blk_new _ _ _ | ((with_reducible refine blk_at ?_); (simp; done)) | with_reducible apply blk_alloc | with_reducible apply blk_gw | with_reducible apply blk_drew))
  have hbW : Below w.heap.size w W := by rw [hW]; exact (by repeat (first | with_reducible exact Below.refl _ _ | with_reducible assumption | refine bgw ?_ (by first | (simp; done) | (simp; omega) | omega) _ | refine Below.setCell ?_ (by first | exact Nat.le_of_not_lt (by assumption) | (simp; done) | (simp; omega) | omega) _ | refine Below.alloc ?_ (by first | (simp; done) | (simp; omega) | omega) _ | refine Below.drew ?_))
  clear hW
  have hszW := hbW.size
  have okS := blk_older kS
  have ckS_0 : _ = some _ := blk_cell kS 0
  have ckS_1 : _ = some _ := blk_cell kS 1
  have ckS_2 : _ = some _ := blk_cell kS 2
  have fkS_0 := blk_free kS 0
  have fkS_1 := blk_free kS 1
  have fkS_2 := blk_free kS 2
  go_wp2_with (first
    | (go_at_call 18; refine Calls.mono (gw_at (cV _ _ (Pts.to hP (by repeat (first | with_reducible exact Below.refl _ _ | with_reducible assumption | refine bgw ?_ (by first | (simp; done) | (simp; omega) | omega) _ | refine Below.setCell ?_ (by first | exact Nat.le_of_not_lt (by assumption) | (simp; done) | (simp; omega) | omega) _ | refine Below.alloc ?_ (by first | (simp; done) | (simp; omega) | omega) _ | refine Below.drew ?_))))) ?_; rintro e w1 ⟨rfl, q, rfl⟩)
    | (go_at_call 10; refine Calls.mono (gw_at (cB _ _ (Pts.to hP (by repeat (first | with_reducible exact Below.refl _ _ | with_reducible assumption | refine bgw ?_ (by first | (simp; done) | (simp; omega) | omega) _ | refine Below.setCell ?_ (by first | exact Nat.le_of_not_lt (by assumption) | (simp; done) | (simp; omega) | omega) _ | refine Below.alloc ?_ (by first | (simp; done) | (simp; omega) | omega) _ | refine Below.drew ?_))))) ?_; rintro e w1 ⟨rfl, q, rfl⟩)
    | (go_at_call 14; refine Calls.mono (gw_at (cR _ _ (Pts.to hP (by repeat (first | with_reducible exact Below.refl _ _ | with_reducible assumption | refine bgw ?_ (by first | (simp; done) | (simp; omega) | omega) _ | refine Below.setCell ?_ (by first | exact Nat.le_of_not_lt (by assumption) | (simp; done) | (simp; omega) | omega) _ | refine Below.alloc ?_ (by first | (simp; done) | (simp; omega) | omega) _ | refine Below.drew ?_))))) ?_; rintro e w1 ⟨rfl, q, rfl⟩)
    | (go_at_call 16; refine Calls.mono (gw_at (cC _ _ (Pts.to hP (by repeat (first | with_reducible exact Below.refl _ _ | with_reducible assumption | refine bgw ?_ (by first | (simp; done) | (simp; omega) | omega) _ | refine Below.setCell ?_ (by first | exact Nat.le_of_not_lt (by assumption) | (simp; done) | (simp; omega) | omega) _ | refine Below.alloc ?_ (by first | (simp; done) | (simp; omega) | omega) _ | refine Below.drew ?_))))) ?_; rintro e w1 ⟨rfl, q, rfl⟩))
  go_ret
  exact ⟨rfl, Below.trans hbW (Below.mono (by repeat (first | with_reducible exact Below.refl _ _ | with_reducible assumption | refine bgw ?_ (by first | (simp; done) | (simp; omega) | omega) _ | refine Below.setCell ?_ (by first | exact Nat.le_of_not_lt (by assumption) | (simp; done) | (simp; omega) | omega) _ | refine Below.alloc ?_ (by first | (simp; done) | (simp; omega) | omega) _ | refine Below.drew ?_)) hszW)⟩

theorem eqS_self (K R : Int) (ps : List (Int × Int)) : eqS K R ps K R ps = true := by unfold eqS; simp

set_option maxHeartbeats 4000000 in
theorem walk_ShapeContainsExact (K R : Int) (A : Option Addr) (cap : Nat) (ps : List (Int × Int)) (px py a x y : Int) (w : World) (hp : Pts w A ps) (hl : ps.length ≤ cap) (hc : cap ≤ maxLen) : Calls Tryz.prog 4 #[.agg #[.int .i64 K, .int .i64 R, .slice A ps.length cap], .agg #[.int .i64 px, .int .i64 py, .int .i64 a], .agg #[.int .i64 x, .int .i64 y]] w fun e w' => e = .returned (.bool true) ∧ Below w.heap.size w w' := by
  have e0 := example12_b
  have cF := fun (w' : World) => rfew_b K R A ps.length cap w'
  by_cases n1 : (ps.length : Int) ≤ 20
  rotate_left
  · rw [decide_eq_false n1] at cF
    clear n1
    go_enter Tryz.func4, Tryz.ntmps4
    go_wp2_with (first | (go_at_call 5; refine Calls.mono (gw_at (cF _)) ?_; rintro e w1 ⟨rfl, q, rfl⟩) | (go_at_call 6; refine Calls.mono (gw_at (e0 _)) ?_; rintro e w1 ⟨rfl, q, rfl⟩))
    go_ret
    exact ⟨rfl, (by repeat (first | with_reducible exact Below.refl _ _ | with_reducible assumption | refine bgw ?_ (by first | (simp; done) | (simp; omega) | omega) _ | refine Below.setCell ?_ (by first | exact Nat.le_of_not_lt (by assumption) | (simp; done) | (simp; omega) | omega) _ | refine Below.alloc ?_ (by first | (simp; done) | (simp; omega) | omega) _ | refine Below.drew ?_))⟩
  rw [decide_eq_true n1] at cF
  have cC := fun w' h => ycon_b K R A cap ps px py a x y (by omega) w' h
  have cD := fun w' h => rcon_b K R A cap ps px py a x y (by omega) w' h
  generalize conS K R ps px py a x y = C at *
  clear n1
  go_enter Tryz.func4, Tryz.ntmps4
  go_upto_region 3 with (go_at_call 5; refine Calls.mono (gw_at (cF _)) ?_; rintro e w1 ⟨rfl, q, rfl⟩)
  refine wp_region_gw (by kernel_rfl) (by kernel_rfl) ?_
  repeat (go_big_quiet_step (first
    | (go_at_call 16; exact gw_call (cC _ (Pts.to hp (by repeat (first | with_reducible exact Below.refl _ _ | with_reducible assumption | refine bgw ?_ (by first | (simp; done) | (simp; omega) | omega) _ | refine Below.setCell ?_ (by first | exact Nat.le_of_not_lt (by assumption) | (simp; done) | (simp; omega) | omega) _ | refine Below.alloc ?_ (by first | (simp; done) | (simp; omega) | omega) _ | refine Below.drew ?_)))))
    | (go_at_call 17; exact gw_call (cD _ (Pts.to hp (by repeat (first | with_reducible exact Below.refl _ _ | with_reducible assumption | refine bgw ?_ (by first | (simp; done) | (simp; omega) | omega) _ | refine Below.setCell ?_ (by first | exact Nat.le_of_not_lt (by assumption) | (simp; done) | (simp; omega) | omega) _ | refine Below.alloc ?_ (by first | (simp; done) | (simp; omega) | omega) _ | refine Below.drew ?_)))))
    | (go_at_call 6; exact gw_call (e0 _))))
  refine wpQuiet_nil ?_
  intro w1 hw1
  obtain ⟨q, rfl⟩ := hw1
  go_wp2_with fail
  go_ret
  exact ⟨rfl, (by repeat (first | with_reducible exact Below.refl _ _ | with_reducible assumption | refine bgw ?_ (by first | (simp; done) | (simp; omega) | omega) _ | refine Below.setCell ?_ (by first | exact Nat.le_of_not_lt (by assumption) | (simp; done) | (simp; omega) | omega) _ | refine Below.alloc ?_ (by first | (simp; done) | (simp; omega) | omega) _ | refine Below.drew ?_))⟩

end Go.Proofs.YtihfmaaacekalaaGreat
