/- Laws of chapter 12: the example, ShapeValidateExact, ShapeContainsExact, ShapeGeometryExact. -/
import Derived.Test.YtihfmaaacekalaaCoD
set_option linter.unusedVariables false
namespace Go.Proofs.Ytihfmaaacekalaa
open Go.RowKit Fx

theorem rotx_00 (c s : Int) : rotx c s 0 0 = 0 := by unfold rotx; rw [show sat 0 = 0 from rfl, Int.mul_zero, Int.mul_zero, Int.sub_zero, rdiv_zero0]; rfl
theorem roty_00 (c s : Int) : roty c s 0 0 = 0 := by unfold roty; rw [show sat 0 = 0 from rfl, Int.mul_zero, Int.mul_zero, Int.add_zero, rdiv_zero0]; rfl
theorem tr_00 (a : Int) : tr 0 0 a (0, 0) = (0, 0) := by unfold tr tpx tpy; dsimp only; rw [rotx_00, roty_00]; rfl
theorem ex12_val : valS 1 65536 [(0, 0)] = 0 := by decide +kernel
theorem ex12_bnd : bndS 1 65536 [(0, 0)] 0 0 102944 = ⟨-65536, -65536, 65536, 65536⟩ := by
  unfold bndS; rw [if_pos ex12_val, List.map_cons, List.map_nil, tr_00]; decide +kernel
theorem ex12_brad : bradS 1 65536 [(0, 0)] = 65536 := by unfold bradS; rw [if_pos ex12_val]; decide +kernel
theorem ex12_con : conS 1 65536 [(0, 0)] 0 0 0 65536 0 = true := by
  unfold conS conC; rw [ex12_val, List.map_cons, List.map_nil, tr_00, if_pos rfl]
  have e : vlen (sub 65536 (hp' [((0 : Int), (0 : Int))] 0).1) (sub 0 (hp' [((0 : Int), (0 : Int))] 0).2) = 65536 := by
    show vlen 65536 0 = 65536
    unfold vlen
    exact isq_eq (by decide) (by decide) (by decide) (by decide) (by decide)
  rw [e]; rfl

theorem rfew_b (K R : Int) (A : Option Addr) (n cap : Nat) (w : World) : Calls Try.prog 6 #[.agg #[.int .i64 K, .int .i64 R, .slice A n cap]] w fun e w' => e = .returned (.bool (decide ((n : Int) ≤ 20))) ∧ Below w.heap.size w w' := by
  by_cases h : (n : Int) ≤ 20
  · rw [decide_eq_true h]
    go_enter Try.func6, Try.ntmps6
    go_wp2_with fail
    go_ret
    exact ⟨rfl, (by repeat (first | with_reducible exact Below.refl _ _ | with_reducible assumption | refine bgw ?_ (by first | (simp; done) | (simp; omega) | omega) _ | refine Below.setCell ?_ (by first | exact Nat.le_of_not_lt (by assumption) | (simp; done) | (simp; omega) | omega) _ | refine Below.alloc ?_ (by first | (simp; done) | (simp; omega) | omega) _ | refine Below.drew ?_))⟩
  · rw [decide_eq_false h]
    go_enter Try.func6, Try.ntmps6
    go_wp2_with fail
    go_ret
    exact ⟨rfl, (by repeat (first | with_reducible exact Below.refl _ _ | with_reducible assumption | refine bgw ?_ (by first | (simp; done) | (simp; omega) | omega) _ | refine Below.setCell ?_ (by first | exact Nat.le_of_not_lt (by assumption) | (simp; done) | (simp; omega) | omega) _ | refine Below.alloc ?_ (by first | (simp; done) | (simp; omega) | omega) _ | refine Below.drew ?_))⟩

theorem example12_b (w : World) : Calls Try.prog 7 #[] w fun e w' => e = .returned (.bool true) ∧ Below w.heap.size w w' := by
  have cV : ∀ b w', Pts w' (some ⟨b, 0, none⟩) [(0, 0)] → Calls Try.prog 9 #[.agg #[.int .i64 1, .int .i64 65536, .slice (some ⟨b, 0, none⟩) 1 1]] w' fun e w'' => e = .returned (.int .i64 0) ∧ Below w'.heap.size w' w'' := fun b w' h => by
    have := yval_b 1 65536 (some ⟨b, 0, none⟩) 1 [(0, 0)] (by decide) w' h; rw [ex12_val] at this; exact this
  have cB : ∀ b w', Pts w' (some ⟨b, 0, none⟩) [(0, 0)] → Calls Try.prog 15 #[.agg #[.int .i64 1, .int .i64 65536, .slice (some ⟨b, 0, none⟩) 1 1], .agg #[.int .i64 0, .int .i64 0, .int .i64 102944]] w' fun e w'' => e = .returned (.agg #[.int .i64 (-65536), .int .i64 (-65536), .int .i64 65536, .int .i64 65536]) ∧ Below w'.heap.size w' w'' := fun b w' h => by
    have := ybnd_b 1 65536 (some ⟨b, 0, none⟩) 1 [(0, 0)] 0 0 102944 (by decide) w' h; rw [ex12_bnd] at this; exact this
  have cR : ∀ b w', Pts w' (some ⟨b, 0, none⟩) [(0, 0)] → Calls Try.prog 21 #[.agg #[.int .i64 1, .int .i64 65536, .slice (some ⟨b, 0, none⟩) 1 1]] w' fun e w'' => e = .returned (.int .i64 65536) ∧ Below w'.heap.size w' w'' := fun b w' h => by
    have := ybr_b 1 65536 (some ⟨b, 0, none⟩) 1 [(0, 0)] (by decide) w' h; rw [ex12_brad] at this; exact this
  have cC : ∀ b w', Pts w' (some ⟨b, 0, none⟩) [(0, 0)] → Calls Try.prog 14 #[.agg #[.int .i64 1, .int .i64 65536, .slice (some ⟨b, 0, none⟩) 1 1], .agg #[.int .i64 0, .int .i64 0, .int .i64 0], .agg #[.int .i64 65536, .int .i64 0]] w' fun e w'' => e = .returned (.bool true) ∧ Below w'.heap.size w' w'' := fun b w' h => by
    have := ycon_b 1 65536 (some ⟨b, 0, none⟩) 1 [(0, 0)] 0 0 0 65536 0 (by decide) w' h; rw [ex12_con] at this; exact this
  go_enter Try.func7, Try.ntmps7
  go_upto_region 2 with fail
  refine wp_named ?_
  intro W hW
  have hP : Pts W (some ⟨w.heap.size, 0, none⟩) [(0, 0)] := by rw [hW]; exact pts_of_list (t := 34) (ps := [(0, 0)]) (by show blk _ _ #[.int .i64 0, .int .i64 0] _; exact (by repeat (first | with_reducible exact blk_new _ _ _ | ((with_reducible refine blk_at ?_); (simp; done)) | with_reducible apply blk_alloc | with_reducible apply blk_gw | with_reducible apply blk_drew)))
  have kS : blk W (w.heap.size + 1) #[.int .i64 1, .int .i64 65536, .slice (some ⟨w.heap.size, 0, none⟩) 1 1] 25 := by rw [hW]; exact (by repeat (first | with_reducible exact blk_new _ _ _ | ((with_reducible refine blk_at ?_); (simp; done)) | with_reducible apply blk_alloc | with_reducible apply blk_gw | with_reducible apply blk_drew))
  have hbW : Below w.heap.size w W := by rw [hW]; exact (by repeat (first | with_reducible exact Below.refl _ _ | with_reducible assumption | refine bgw ?_ (by first | (simp; done) | (simp; omega) | omega) _ | refine Below.setCell ?_ (by first | exact Nat.le_of_not_lt (by assumption) | (simp; done) | (simp; omega) | omega) _ | refine Below.alloc ?_ (by first | (simp; done) | (simp; omega) | omega) _ | refine Below.drew ?_))
  clear hW
  have hszW := hbW.size
  have okS := blk_older kS
  have ckS_0 : _ = some _ := blk_cell kS 0
  have ckS_1 : _ = some _ := blk_cell kS 1
  have ckS_2 : _ = some _ := blk_cell kS 2
  have fkS_0 := blk_free kS 0
  have fkS_1 := blk_free kS 1
  have fkS_2 := blk_free kS 2
  go_wp2_with (first
    | (go_at_call 9; refine Calls.mono (gw_at (cV _ _ (Pts.to hP (by repeat (first | with_reducible exact Below.refl _ _ | with_reducible assumption | refine bgw ?_ (by first | (simp; done) | (simp; omega) | omega) _ | refine Below.setCell ?_ (by first | exact Nat.le_of_not_lt (by assumption) | (simp; done) | (simp; omega) | omega) _ | refine Below.alloc ?_ (by first | (simp; done) | (simp; omega) | omega) _ | refine Below.drew ?_))))) ?_; rintro e w1 ⟨rfl, q, rfl⟩)
    | (go_at_call 15; refine Calls.mono (gw_at (cB _ _ (Pts.to hP (by repeat (first | with_reducible exact Below.refl _ _ | with_reducible assumption | refine bgw ?_ (by first | (simp; done) | (simp; omega) | omega) _ | refine Below.setCell ?_ (by first | exact Nat.le_of_not_lt (by assumption) | (simp; done) | (simp; omega) | omega) _ | refine Below.alloc ?_ (by first | (simp; done) | (simp; omega) | omega) _ | refine Below.drew ?_))))) ?_; rintro e w1 ⟨rfl, q, rfl⟩)
    | (go_at_call 21; refine Calls.mono (gw_at (cR _ _ (Pts.to hP (by repeat (first | with_reducible exact Below.refl _ _ | with_reducible assumption | refine bgw ?_ (by first | (simp; done) | (simp; omega) | omega) _ | refine Below.setCell ?_ (by first | exact Nat.le_of_not_lt (by assumption) | (simp; done) | (simp; omega) | omega) _ | refine Below.alloc ?_ (by first | (simp; done) | (simp; omega) | omega) _ | refine Below.drew ?_))))) ?_; rintro e w1 ⟨rfl, q, rfl⟩)
    | (go_at_call 14; refine Calls.mono (gw_at (cC _ _ (Pts.to hP (by repeat (first | with_reducible exact Below.refl _ _ | with_reducible assumption | refine bgw ?_ (by first | (simp; done) | (simp; omega) | omega) _ | refine Below.setCell ?_ (by first | exact Nat.le_of_not_lt (by assumption) | (simp; done) | (simp; omega) | omega) _ | refine Below.alloc ?_ (by first | (simp; done) | (simp; omega) | omega) _ | refine Below.drew ?_))))) ?_; rintro e w1 ⟨rfl, q, rfl⟩))
  go_ret
  exact ⟨rfl, Below.trans hbW (Below.mono (by repeat (first | with_reducible exact Below.refl _ _ | with_reducible assumption | refine bgw ?_ (by first | (simp; done) | (simp; omega) | omega) _ | refine Below.setCell ?_ (by first | exact Nat.le_of_not_lt (by assumption) | (simp; done) | (simp; omega) | omega) _ | refine Below.alloc ?_ (by first | (simp; done) | (simp; omega) | omega) _ | refine Below.drew ?_)) hszW)⟩

theorem eqS_self (K R : Int) (ps : List (Int × Int)) : eqS K R ps K R ps = true := by unfold eqS; simp

set_option maxHeartbeats 4000000 in
theorem walk_ShapeValidateExact (K R : Int) (A : Option Addr) (cap : Nat) (ps : List (Int × Int)) (K2 R2 : Int) (B : Option Addr) (cap2 : Nat) (qs : List (Int × Int)) (w : World) (hp : Pts w A ps) (hl : ps.length ≤ cap) (hc : cap ≤ maxLen) (hA : A = none → cap = 0) (hq : Pts w B qs) (hm : qs.length ≤ cap2) (hc2 : cap2 ≤ maxLen) : Calls Try.prog 3 #[.agg #[.int .i64 K, .int .i64 R, .slice A ps.length cap], .agg #[.int .i64 K2, .int .i64 R2, .slice B qs.length cap2]] w fun e w' => e = .returned (.bool true) ∧ Below w.heap.size w w' := by
  have e0 := example12_b
  by_cases n1 : (ps.length : Int) ≤ 20
  rotate_left
  · have cF := fun (w' : World) => rfew_b K R A ps.length cap w'
    rw [decide_eq_false n1] at cF
    clear n1
    go_enter Try.func3, Try.ntmps3
    go_wp2_with (first | (go_at_call 6; refine Calls.mono (gw_at (cF _)) ?_; rintro e w1 ⟨rfl, q, rfl⟩) | (go_at_call 7; refine Calls.mono (gw_at (e0 _)) ?_; rintro e w1 ⟨rfl, q, rfl⟩))
    go_ret
    exact ⟨rfl, (by repeat (first | with_reducible exact Below.refl _ _ | with_reducible assumption | refine bgw ?_ (by first | (simp; done) | (simp; omega) | omega) _ | refine Below.setCell ?_ (by first | exact Nat.le_of_not_lt (by assumption) | (simp; done) | (simp; omega) | omega) _ | refine Below.alloc ?_ (by first | (simp; done) | (simp; omega) | omega) _ | refine Below.drew ?_))⟩
  have cF := fun (w' : World) => rfew_b K R A ps.length cap w'
  rw [decide_eq_true n1] at cF
  by_cases n2 : (qs.length : Int) ≤ 20
  rotate_left
  · have cG := fun (w' : World) => rfew_b K2 R2 B qs.length cap2 w'
    rw [decide_eq_false n2] at cG
    clear n1 n2
    go_enter Try.func3, Try.ntmps3
    go_wp2_with (first | (go_at_call 6; (with_reducible show Calls _ _ #[.agg #[.int .i64 K, _, .slice A _ _]] _ _); refine Calls.mono (gw_at (cF _)) ?_; rintro e w1 ⟨rfl, q, rfl⟩) | (go_at_call 6; (with_reducible show Calls _ _ #[.agg #[.int .i64 K2, _, .slice B _ _]] _ _); refine Calls.mono (gw_at (cG _)) ?_; rintro e w1 ⟨rfl, q, rfl⟩) | (go_at_call 7; refine Calls.mono (gw_at (e0 _)) ?_; rintro e w1 ⟨rfl, q, rfl⟩))
    go_ret
    exact ⟨rfl, (by repeat (first | with_reducible exact Below.refl _ _ | with_reducible assumption | refine bgw ?_ (by first | (simp; done) | (simp; omega) | omega) _ | refine Below.setCell ?_ (by first | exact Nat.le_of_not_lt (by assumption) | (simp; done) | (simp; omega) | omega) _ | refine Below.alloc ?_ (by first | (simp; done) | (simp; omega) | omega) _ | refine Below.drew ?_))⟩
  have cG := fun (w' : World) => rfew_b K2 R2 B qs.length cap2 w'
  rw [decide_eq_true n2] at cG
  have cV := fun w' h => yval_b K R A cap ps (by omega) w' h
  have cW := fun w' h => rval_b K R A cap ps (by omega) w' h
  have cK := fun w' h => yclo_b K R A cap ps (by omega) hl hA w' h
  have cE := fun w' h h' => yeqs_b K R A cap ps K2 R2 B cap2 qs (by omega) (by omega) w' h h'
  have cD := fun w' h h' => reqs_b K R A cap ps K2 R2 B cap2 qs (by omega) (by omega) w' h h'
  have cS := fun w' h h' => yeqs_b K R A cap ps K R A cap ps (by omega) (by omega) w' h h'
  have cT := fun A1 c1 w' h h' => reqs_b K R A1 c1 ps K R A cap ps (by omega) (by omega) w' h h'
  rw [eqS_self] at cS
  simp only [eqS_self] at cT
  generalize eqS K R ps K2 R2 qs = E at *
  generalize valS K R ps = V at *
  clear n1 n2
  go_enter Try.func3, Try.ntmps3
  go_upto_region 4 with (first | (go_at_call 6; (with_reducible show Calls _ _ #[.agg #[.int .i64 K, _, .slice A _ _]] _ _); refine Calls.mono (gw_at (cF _)) ?_; rintro e w1 ⟨rfl, qf, rfl⟩) | (go_at_call 6; (with_reducible show Calls _ _ #[.agg #[.int .i64 K2, _, .slice B _ _]] _ _); refine Calls.mono (gw_at (cG _)) ?_; rintro e w1 ⟨rfl, qg, rfl⟩) | (go_at_call 8; refine Calls.mono (cK _ (Pts.to hp (by repeat (first | with_reducible exact Below.refl _ _ | with_reducible assumption | refine bgw ?_ (by first | (simp; done) | (simp; omega) | omega) _ | refine Below.setCell ?_ (by first | exact Nat.le_of_not_lt (by assumption) | (simp; done) | (simp; omega) | omega) _ | refine Below.alloc ?_ (by first | (simp; done) | (simp; omega) | omega) _ | refine Below.drew ?_)))) ?_; rintro e w1 ⟨⟨A1, cap1, rfl, h11, h12, h13, -⟩, hb1⟩; obtain ⟨q1, rfl⟩ := gw_of_below hb1; clear hb1))
  refine wp_named ?_
  intro W hW
  have hbW : Below w.heap.size w W := by rw [hW]; exact (by repeat (first | with_reducible exact Below.refl _ _ | with_reducible assumption | refine bgw ?_ (by first | (simp; done) | (simp; omega) | omega) _ | refine Below.setCell ?_ (by first | exact Nat.le_of_not_lt (by assumption) | (simp; done) | (simp; omega) | omega) _ | refine Below.alloc ?_ (by first | (simp; done) | (simp; omega) | omega) _ | refine Below.drew ?_))
  have kA : blk W w.heap.size #[.int .i64 K, .int .i64 R, .slice A ps.length cap] 25 := by rw [hW]; exact (by repeat (first | with_reducible exact blk_new _ _ _ | ((with_reducible refine blk_at ?_); (simp; done)) | with_reducible apply blk_alloc | with_reducible apply blk_gw | with_reducible apply blk_drew))
  have kB : blk W (w.heap.size + 1) #[.int .i64 K2, .int .i64 R2, .slice B qs.length cap2] 25 := by rw [hW]; exact (by repeat (first | with_reducible exact blk_new _ _ _ | ((with_reducible refine blk_at ?_); (simp; done)) | with_reducible apply blk_alloc | with_reducible apply blk_gw | with_reducible apply blk_drew))
  have hP1 : Pts W A1 ps := by rw [hW]; exact Pts.to h13 (by repeat (first | with_reducible exact Below.refl _ _ | with_reducible assumption | refine bgw ?_ (by first | (simp; done) | (simp; omega) | omega) _ | refine Below.setCell ?_ (by first | exact Nat.le_of_not_lt (by assumption) | (simp; done) | (simp; omega) | omega) _ | refine Below.alloc ?_ (by first | (simp; done) | (simp; omega) | omega) _ | refine Below.drew ?_))
  have kC : blk W (w.heap.size + 1 + 1 + qf.os.size + qg.os.size + q1.os.size) #[.int .i64 K, .int .i64 R, .slice A1 ps.length cap1] 25 := by rw [hW]; exact (by repeat (first | with_reducible exact blk_new _ _ _ | ((with_reducible refine blk_at ?_); (simp; done)) | with_reducible apply blk_alloc | with_reducible apply blk_gw | with_reducible apply blk_drew))
  clear hW h13 cK cF cG
  generalize w.heap.size + 1 + 1 + qf.os.size + qg.os.size + q1.os.size = C at *
  have hP : Pts W A ps := Pts.to hp hbW
  have hQ : Pts W B qs := Pts.to hq hbW
  have hszW := hbW.size
  have okA := blk_older kA
  have ckA_0 : _ = some _ := blk_cell kA 0
  have ckA_1 : _ = some _ := blk_cell kA 1
  have ckA_2 : _ = some _ := blk_cell kA 2
  have fkA_0 := blk_free kA 0
  have fkA_1 := blk_free kA 1
  have fkA_2 := blk_free kA 2
  have okB := blk_older kB
  have ckB_0 : _ = some _ := blk_cell kB 0
  have ckB_1 : _ = some _ := blk_cell kB 1
  have ckB_2 : _ = some _ := blk_cell kB 2
  have fkB_0 := blk_free kB 0
  have fkB_1 := blk_free kB 1
  have fkB_2 := blk_free kB 2
  have okC := blk_older kC
  have ckC_0 : _ = some _ := blk_cell kC 0
  have ckC_1 : _ = some _ := blk_cell kC 1
  have ckC_2 : _ = some _ := blk_cell kC 2
  have fkC_0 := blk_free kC 0
  have fkC_1 := blk_free kC 1
  have fkC_2 := blk_free kC 2
  refine wp_region_gw (by kernel_rfl) (by kernel_rfl) ?_
  repeat (go_big_quiet_step (first
    | (go_at_call 9; exact gw_call (cV _ (Pts.to hP (by repeat (first | with_reducible exact Below.refl _ _ | with_reducible assumption | refine bgw ?_ (by first | (simp; done) | (simp; omega) | omega) _ | refine Below.setCell ?_ (by first | exact Nat.le_of_not_lt (by assumption) | (simp; done) | (simp; omega) | omega) _ | refine Below.alloc ?_ (by first | (simp; done) | (simp; omega) | omega) _ | refine Below.drew ?_)))))
    | (go_at_call 10; exact gw_call (cW _ (Pts.to hP (by repeat (first | with_reducible exact Below.refl _ _ | with_reducible assumption | refine bgw ?_ (by first | (simp; done) | (simp; omega) | omega) _ | refine Below.setCell ?_ (by first | exact Nat.le_of_not_lt (by assumption) | (simp; done) | (simp; omega) | omega) _ | refine Below.alloc ?_ (by first | (simp; done) | (simp; omega) | omega) _ | refine Below.drew ?_)))))
    | (go_at_call 11; (with_reducible show Calls _ _ #[_, .agg #[.int .i64 K2, _, .slice B _ _]] _ _); exact gw_call (cE _ (Pts.to hP (by repeat (first | with_reducible exact Below.refl _ _ | with_reducible assumption | refine bgw ?_ (by first | (simp; done) | (simp; omega) | omega) _ | refine Below.setCell ?_ (by first | exact Nat.le_of_not_lt (by assumption) | (simp; done) | (simp; omega) | omega) _ | refine Below.alloc ?_ (by first | (simp; done) | (simp; omega) | omega) _ | refine Below.drew ?_))) (Pts.to hQ (by repeat (first | with_reducible exact Below.refl _ _ | with_reducible assumption | refine bgw ?_ (by first | (simp; done) | (simp; omega) | omega) _ | refine Below.setCell ?_ (by first | exact Nat.le_of_not_lt (by assumption) | (simp; done) | (simp; omega) | omega) _ | refine Below.alloc ?_ (by first | (simp; done) | (simp; omega) | omega) _ | refine Below.drew ?_)))))
    | (go_at_call 11; (with_reducible show Calls _ _ #[_, .agg #[.int .i64 K, _, .slice A _ _]] _ _); exact gw_call (cS _ (Pts.to hP (by repeat (first | with_reducible exact Below.refl _ _ | with_reducible assumption | refine bgw ?_ (by first | (simp; done) | (simp; omega) | omega) _ | refine Below.setCell ?_ (by first | exact Nat.le_of_not_lt (by assumption) | (simp; done) | (simp; omega) | omega) _ | refine Below.alloc ?_ (by first | (simp; done) | (simp; omega) | omega) _ | refine Below.drew ?_))) (Pts.to hP (by repeat (first | with_reducible exact Below.refl _ _ | with_reducible assumption | refine bgw ?_ (by first | (simp; done) | (simp; omega) | omega) _ | refine Below.setCell ?_ (by first | exact Nat.le_of_not_lt (by assumption) | (simp; done) | (simp; omega) | omega) _ | refine Below.alloc ?_ (by first | (simp; done) | (simp; omega) | omega) _ | refine Below.drew ?_)))))
    | (go_at_call 12; (with_reducible show Calls _ _ #[_, .agg #[.int .i64 K2, _, .slice B _ _]] _ _); exact gw_call (cD _ (Pts.to hP (by repeat (first | with_reducible exact Below.refl _ _ | with_reducible assumption | refine bgw ?_ (by first | (simp; done) | (simp; omega) | omega) _ | refine Below.setCell ?_ (by first | exact Nat.le_of_not_lt (by assumption) | (simp; done) | (simp; omega) | omega) _ | refine Below.alloc ?_ (by first | (simp; done) | (simp; omega) | omega) _ | refine Below.drew ?_))) (Pts.to hQ (by repeat (first | with_reducible exact Below.refl _ _ | with_reducible assumption | refine bgw ?_ (by first | (simp; done) | (simp; omega) | omega) _ | refine Below.setCell ?_ (by first | exact Nat.le_of_not_lt (by assumption) | (simp; done) | (simp; omega) | omega) _ | refine Below.alloc ?_ (by first | (simp; done) | (simp; omega) | omega) _ | refine Below.drew ?_)))))
    | (go_at_call 12; (with_reducible show Calls _ _ #[.agg #[_, _, .slice A1 _ _], _] _ _); exact gw_call (cT _ _ _ (Pts.to hP1 (by repeat (first | with_reducible exact Below.refl _ _ | with_reducible assumption | refine bgw ?_ (by first | (simp; done) | (simp; omega) | omega) _ | refine Below.setCell ?_ (by first | exact Nat.le_of_not_lt (by assumption) | (simp; done) | (simp; omega) | omega) _ | refine Below.alloc ?_ (by first | (simp; done) | (simp; omega) | omega) _ | refine Below.drew ?_))) (Pts.to hP (by repeat (first | with_reducible exact Below.refl _ _ | with_reducible assumption | refine bgw ?_ (by first | (simp; done) | (simp; omega) | omega) _ | refine Below.setCell ?_ (by first | exact Nat.le_of_not_lt (by assumption) | (simp; done) | (simp; omega) | omega) _ | refine Below.alloc ?_ (by first | (simp; done) | (simp; omega) | omega) _ | refine Below.drew ?_)))))
    | (go_at_call 7; exact gw_call (e0 _))))
  refine wpQuiet_nil ?_
  intro w1 hw1
  obtain ⟨q, rfl⟩ := hw1
  go_wp2_with fail
  go_ret
  exact ⟨rfl, Below.trans hbW (Below.mono (by repeat (first | with_reducible exact Below.refl _ _ | with_reducible assumption | refine bgw ?_ (by first | (simp; done) | (simp; omega) | omega) _ | refine Below.setCell ?_ (by first | exact Nat.le_of_not_lt (by assumption) | (simp; done) | (simp; omega) | omega) _ | refine Below.alloc ?_ (by first | (simp; done) | (simp; omega) | omega) _ | refine Below.drew ?_)) hszW)⟩

end Go.Proofs.Ytihfmaaacekalaa
