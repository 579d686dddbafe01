/- Laws of chapter 14: the example, SATMatchesReference, SATNormalPerpendicular. -/
import Derived.Test.YtodbbaimdbibpaaFixQP
set_option linter.unusedVariables false
namespace Go.Proofs.Ytodbbaimdbibpaa
open Go.RowKit Fx

def sqA : List (Int × Int) := [(0, 0), (65536, 0), (65536, 65536), (0, 65536)]
def sqB : List (Int × Int) := [(131072, 0), (196608, 0), (196608, 65536), (131072, 65536)]
theorem sqA_v0 : vlen (eX sqA 0) (eY sqA 0) = 65536 := vlen_65536 (by decide +kernel)
theorem sqA_v1 : vlen (eX sqA 1) (eY sqA 1) = 65536 := vlen_65536 (by decide +kernel)
theorem sqA_v2 : vlen (eX sqA 2) (eY sqA 2) = 65536 := vlen_65536 (by decide +kernel)
theorem sqA_v3 : vlen (eX sqA 3) (eY sqA 3) = 65536 := vlen_65536 (by decide +kernel)
theorem eDir_is {ps : List Pt} {k : Nat} {l : Int} (h : eOK ps k) (hv : vlen (eX ps k) (eY ps k) = l) : eDir ps k = (unit (eX ps k) l, unit (eY ps k) l) := by unfold eDir; rw [if_pos h, show ((k : Nat) : Int).toNat = k from rfl, hv]
theorem sqA_d0 : eDir sqA ((0 : Nat) : Int) = (65536, 0) := by rw [eDir_is (by decide) sqA_v0]; decide +kernel
theorem sqA_d1 : eDir sqA ((1 : Nat) : Int) = (0, 65536) := by rw [eDir_is (by decide) sqA_v1]; decide +kernel
theorem sqA_d2 : eDir sqA ((2 : Nat) : Int) = (-65536, 0) := by rw [eDir_is (by decide) sqA_v2]; decide +kernel
theorem sqA_d3 : eDir sqA ((3 : Nat) : Int) = (0, -65536) := by rw [eDir_is (by decide) sqA_v3]; decide +kernel
theorem sqA_n0 : eNor sqA ((0 : Nat) : Int) = (0, -65536) := by rw [eNor_eDir, sqA_d0]
theorem sqA_n1 : eNor sqA ((1 : Nat) : Int) = (65536, 0) := by rw [eNor_eDir, sqA_d1]; decide
theorem sqA_n2 : eNor sqA ((2 : Nat) : Int) = (0, 65536) := by rw [eNor_eDir, sqA_d2]; decide
theorem sqA_n3 : eNor sqA ((3 : Nat) : Int) = (-65536, 0) := by rw [eNor_eDir, sqA_d3]; decide
theorem sq_sep (i : Nat) (n : Pt) (h : eNor sqA (i : Int) = n) : sep sqA i sqB = min (min (min (dot n.1 n.2 (sub 131072 (hp' sqA i).1) (sub 0 (hp' sqA i).2)) (dot n.1 n.2 (sub 196608 (hp' sqA i).1) (sub 0 (hp' sqA i).2))) (dot n.1 n.2 (sub 196608 (hp' sqA i).1) (sub 65536 (hp' sqA i).2))) (dot n.1 n.2 (sub 131072 (hp' sqA i).1) (sub 65536 (hp' sqA i).2)) := by
  subst h; rfl
theorem sq14_1 : msep sqA sqB = (1, 65536) := by
  have e0 : sep sqA 0 sqB = -65536 := by rw [sq_sep 0 _ sqA_n0]; decide +kernel
  have e1 : sep sqA 1 sqB = 65536 := by rw [sq_sep 1 _ sqA_n1]; decide +kernel
  have e2 : sep sqA 2 sqB = -65536 := by rw [sq_sep 2 _ sqA_n2]; decide +kernel
  have e3 : sep sqA 3 sqB = -196608 := by rw [sq_sep 3 _ sqA_n3]; decide +kernel
  unfold msep
  rw [if_neg (by decide), show sqA.length - 1 = 3 from rfl]
  simp [msf, e0, e1, e2, e3]
theorem sq14_2 : eNor sqA 1 = (65536, 0) := by rw [show (1 : Int) = ((1 : Nat) : Int) from rfl]; exact sqA_n1
theorem sq14_3 : eDir sqA 1 = (0, 65536) := by rw [show (1 : Int) = ((1 : Nat) : Int) from rfl]; exact sqA_d1
theorem sq14_4 : inc sqA 65536 0 = 3 := by
  have e0 : incD sqA 65536 0 0 = 0 := by unfold incD; rw [sqA_n0]; decide +kernel
  have e1 : incD sqA 65536 0 1 = 65536 := by unfold incD; rw [sqA_n1]; decide +kernel
  have e2 : incD sqA 65536 0 2 = 0 := by unfold incD; rw [sqA_n2]; decide +kernel
  have e3 : incD sqA 65536 0 3 = -65536 := by unfold incD; rw [sqA_n3]; decide +kernel
  unfold inc
  rw [if_neg (by decide), show sqA.length - 1 = 3 from rfl]
  simp [incf, e0, e1, e2, e3]
theorem squareA_b (w : World) : Calls Try.prog 24 #[.int .i64 0] w fun e w' => (∃ b, e = .returned (.slice (some ⟨b, 0, none⟩) 4 4) ∧ Pts w' (some ⟨b, 0, none⟩) sqA) ∧ Below w.heap.size w w' := by
  go_enter Try.func24, Try.ntmps24
  go_wp2_with fail
  refine post_nmd ?_
  intro Z hZ
  have hP : Pts Z (some ⟨w.heap.size, 0, none⟩) sqA := by rw [hZ]; exact pts_of_list (t := 24) (ps := sqA) (by show blk _ _ #[.int .i64 0, .int .i64 0, .int .i64 65536, .int .i64 0, .int .i64 65536, .int .i64 65536, .int .i64 0, .int .i64 65536] _; first | exact (by repeat (first | with_reducible exact blk_new _ _ _ | ((with_reducible refine blk_at ?_); (simp; done)) | with_reducible apply blk_alloc | with_reducible apply blk_gw | with_reducible apply blk_drew)) | exact (by apply blk_of; (repeat (first  | with_reducible apply blk_drew | with_reducible apply blk_gw | with_reducible apply blk_alloc | with_reducible apply blk_set | ((with_reducible apply blk_other); focus omega))); (first | rfl | simp)))
  have hbZ : Below w.heap.size w Z := by rw [hZ]; exact (by repeat (first | with_reducible exact Below.refl _ _ | with_reducible assumption | refine bgw ?_ (by first | (simp; done) | (simp; omega) | omega) _ | refine Below.setCell ?_ (by first | exact Nat.le_of_not_lt (by assumption) | (simp; done) | (simp; omega) | omega) _ | refine Below.alloc ?_ (by first | (simp; done) | (simp; omega) | omega) _ | refine Below.drew ?_))
  clear hZ
  exact bodyPost_ret (v := .slice (some ⟨w.heap.size, 0, none⟩) 4 4) (by simp [results, Try.results24, go_sem]) rfl ⟨⟨_, rfl, hP⟩, hbZ⟩

theorem squareB_b (w : World) : Calls Try.prog 24 #[.int .i64 131072] w fun e w' => (∃ b, e = .returned (.slice (some ⟨b, 0, none⟩) 4 4) ∧ Pts w' (some ⟨b, 0, none⟩) sqB) ∧ Below w.heap.size w w' := by
  go_enter Try.func24, Try.ntmps24
  go_wp2_with fail
  refine post_nmd ?_
  intro Z hZ
  have hP : Pts Z (some ⟨w.heap.size, 0, none⟩) sqB := by rw [hZ]; exact pts_of_list (t := 24) (ps := sqB) (by show blk _ _ #[.int .i64 131072, .int .i64 0, .int .i64 196608, .int .i64 0, .int .i64 196608, .int .i64 65536, .int .i64 131072, .int .i64 65536] _; first | exact (by repeat (first | with_reducible exact blk_new _ _ _ | ((with_reducible refine blk_at ?_); (simp; done)) | with_reducible apply blk_alloc | with_reducible apply blk_gw | with_reducible apply blk_drew)) | exact (by apply blk_of; (repeat (first  | with_reducible apply blk_drew | with_reducible apply blk_gw | with_reducible apply blk_alloc | with_reducible apply blk_set | ((with_reducible apply blk_other); focus omega))); (first | rfl | simp)))
  have hbZ : Below w.heap.size w Z := by rw [hZ]; exact (by repeat (first | with_reducible exact Below.refl _ _ | with_reducible assumption | refine bgw ?_ (by first | (simp; done) | (simp; omega) | omega) _ | refine Below.setCell ?_ (by first | exact Nat.le_of_not_lt (by assumption) | (simp; done) | (simp; omega) | omega) _ | refine Below.alloc ?_ (by first | (simp; done) | (simp; omega) | omega) _ | refine Below.drew ?_))
  clear hZ
  exact bodyPost_ret (v := .slice (some ⟨w.heap.size, 0, none⟩) 4 4) (by simp [results, Try.results24, go_sem]) rfl ⟨⟨_, rfl, hP⟩, hbZ⟩

set_option maxHeartbeats 4000000 in
theorem example14_b (w : World) : Calls Try.prog 10 #[] w fun e w' => e = .returned (.bool true) ∧ Below w.heap.size w w' := by
  have cM : ∀ b b' w', Pts w' (some ⟨b, 0, none⟩) sqA → Pts w' (some ⟨b', 0, none⟩) sqB → Calls Try.prog 11 #[.slice (some ⟨b, 0, none⟩) 4 4, .slice (some ⟨b', 0, none⟩) 4 4] w' fun e w'' => e = .returned (.tuple #[.int .i64 1, .int .i64 65536]) ∧ Below w'.heap.size w' w'' := fun b b' w' h1 h2 => by
    have := ymsep_b (some ⟨b, 0, none⟩) (some ⟨b', 0, none⟩) 4 4 sqA sqB (by decide) (by decide) w' h1 h2; rw [sq14_1] at this; exact this
  have cN : ∀ b w', Pts w' (some ⟨b, 0, none⟩) sqA → Calls Try.prog 14 #[.slice (some ⟨b, 0, none⟩) 4 4, .int .i64 1] w' fun e w'' => e = .returned (.agg #[.int .i64 65536, .int .i64 0]) ∧ Below w'.heap.size w' w'' := fun b w' h1 => by
    have := ynor_b (some ⟨b, 0, none⟩) 4 sqA 1 (by decide) w' h1; rw [sq14_2] at this; exact this
  have cD : ∀ b w', Pts w' (some ⟨b, 0, none⟩) sqA → Calls Try.prog 16 #[.slice (some ⟨b, 0, none⟩) 4 4, .int .i64 1] w' fun e w'' => e = .returned (.agg #[.int .i64 0, .int .i64 65536]) ∧ Below w'.heap.size w' w'' := fun b w' h1 => by
    have := ydir_b (some ⟨b, 0, none⟩) 4 sqA 1 (by decide) w' h1; rw [sq14_3] at this; exact this
  have cI : ∀ b w', Pts w' (some ⟨b, 0, none⟩) sqA → Calls Try.prog 18 #[.slice (some ⟨b, 0, none⟩) 4 4, .agg #[.int .i64 65536, .int .i64 0]] w' fun e w'' => e = .returned (.int .i64 3) ∧ Below w'.heap.size w' w'' := fun b w' h1 => by
    have := yinc_b (some ⟨b, 0, none⟩) 4 sqA 65536 0 (by decide) w' h1; rw [sq14_4] at this; exact this
  have cA := squareA_b
  have cB := squareB_b
  go_enter Try.func10, Try.ntmps10
  go_wp2_with (first
    | (go_at_call 24; with_reducible_and_instances refine Calls.mono (gw_ex (cA _)) ?_; rintro e w1 ⟨⟨b, rfl, hsA⟩, q, rfl⟩)
    | (go_at_call 24; with_reducible_and_instances refine Calls.mono (gw_ex (cB _)) ?_; rintro e w1 ⟨⟨b, rfl, hsB⟩, q, rfl⟩)
    | (go_at_call 11; refine Calls.mono (gw_at (cM _ _ _ (Pts.to hsA (by repeat (first | with_reducible exact Below.refl _ _ | with_reducible assumption | refine bgw ?_ (by first | (simp; done) | (simp; omega) | omega) _ | refine Below.setCell ?_ (by first | exact Nat.le_of_not_lt (by assumption) | (simp; done) | (simp; omega) | omega) _ | refine Below.alloc ?_ (by first | (simp; done) | (simp; omega) | omega) _ | refine Below.drew ?_))) (Pts.to hsB (by repeat (first | with_reducible exact Below.refl _ _ | with_reducible assumption | refine bgw ?_ (by first | (simp; done) | (simp; omega) | omega) _ | refine Below.setCell ?_ (by first | exact Nat.le_of_not_lt (by assumption) | (simp; done) | (simp; omega) | omega) _ | refine Below.alloc ?_ (by first | (simp; done) | (simp; omega) | omega) _ | refine Below.drew ?_))))) ?_; rintro e w1 ⟨rfl, q, rfl⟩)
    | (go_at_call 14; refine Calls.mono (gw_at (cN _ _ (Pts.to hsA (by repeat (first | with_reducible exact Below.refl _ _ | with_reducible assumption | refine bgw ?_ (by first | (simp; done) | (simp; omega) | omega) _ | refine Below.setCell ?_ (by first | exact Nat.le_of_not_lt (by assumption) | (simp; done) | (simp; omega) | omega) _ | refine Below.alloc ?_ (by first | (simp; done) | (simp; omega) | omega) _ | refine Below.drew ?_))))) ?_; rintro e w1 ⟨rfl, q, rfl⟩)
    | (go_at_call 16; refine Calls.mono (gw_at (cD _ _ (Pts.to hsA (by repeat (first | with_reducible exact Below.refl _ _ | with_reducible assumption | refine bgw ?_ (by first | (simp; done) | (simp; omega) | omega) _ | refine Below.setCell ?_ (by first | exact Nat.le_of_not_lt (by assumption) | (simp; done) | (simp; omega) | omega) _ | refine Below.alloc ?_ (by first | (simp; done) | (simp; omega) | omega) _ | refine Below.drew ?_))))) ?_; rintro e w1 ⟨rfl, q, rfl⟩)
    | (go_at_call 18; refine Calls.mono (gw_at (cI _ _ (Pts.to hsA (by repeat (first | with_reducible exact Below.refl _ _ | with_reducible assumption | refine bgw ?_ (by first | (simp; done) | (simp; omega) | omega) _ | refine Below.setCell ?_ (by first | exact Nat.le_of_not_lt (by assumption) | (simp; done) | (simp; omega) | omega) _ | refine Below.alloc ?_ (by first | (simp; done) | (simp; omega) | omega) _ | refine Below.drew ?_))))) ?_; rintro e w1 ⟨rfl, q, rfl⟩))
  go_ret
  exact ⟨rfl, (by repeat (first | with_reducible exact Below.refl _ _ | with_reducible assumption | refine bgw ?_ (by first | (simp; done) | (simp; omega) | omega) _ | refine Below.setCell ?_ (by first | exact Nat.le_of_not_lt (by assumption) | (simp; done) | (simp; omega) | omega) _ | refine Below.alloc ?_ (by first | (simp; done) | (simp; omega) | omega) _ | refine Below.drew ?_))⟩

set_option maxHeartbeats 4000000 in
theorem walk_SATMatchesReference (A : Option Addr) (cap : Nat) (ps : List (Int × Int)) (B_ : Option Addr) (cap2 : Nat) (qs : List (Int × Int)) (i x y : Int) (w : World) (hp : Pts w A ps) (hl : ps.length ≤ cap) (hc : cap ≤ maxLen) (hq : Pts w B_ qs) (hm : qs.length ≤ cap2) (hc2 : cap2 ≤ maxLen) : Calls Try.prog 4 #[.slice A ps.length cap, .slice B_ qs.length cap2, .int .i64 i, .agg #[.int .i64 x, .int .i64 y]] w fun e w' => e = .returned (.bool true) ∧ Below w.heap.size w w' := by
  have e0 := example14_b
  by_cases n1 : (20 : Int) < (ps.length : Int)
  focus
    go_enter Try.func4, Try.ntmps4
    go_wp2_with (go_at_call 10; refine Calls.mono (gw_at (e0 _)) ?_; rintro e w1 ⟨rfl, q, rfl⟩)
    go_ret
    exact ⟨rfl, (by repeat (first | with_reducible exact Below.refl _ _ | with_reducible assumption | refine bgw ?_ (by first | (simp; done) | (simp; omega) | omega) _ | refine Below.setCell ?_ (by first | exact Nat.le_of_not_lt (by assumption) | (simp; done) | (simp; omega) | omega) _ | refine Below.alloc ?_ (by first | (simp; done) | (simp; omega) | omega) _ | refine Below.drew ?_))⟩
  by_cases n2 : (20 : Int) < (qs.length : Int)
  focus
    go_enter Try.func4, Try.ntmps4
    go_wp2_with (go_at_call 10; refine Calls.mono (gw_at (e0 _)) ?_; rintro e w1 ⟨rfl, q, rfl⟩)
    go_ret
    exact ⟨rfl, (by repeat (first | with_reducible exact Below.refl _ _ | with_reducible assumption | refine bgw ?_ (by first | (simp; done) | (simp; omega) | omega) _ | refine Below.setCell ?_ (by first | exact Nat.le_of_not_lt (by assumption) | (simp; done) | (simp; omega) | omega) _ | refine Below.alloc ?_ (by first | (simp; done) | (simp; omega) | omega) _ | refine Below.drew ?_))⟩
  have cM := fun w' h1 h2 => ymsep_b A B_ cap cap2 ps qs (by omega) (by omega) w' h1 h2
  have rM := fun w' h1 h2 => rmsep_b A B_ cap cap2 ps qs (by omega) (by omega) w' h1 h2
  have cN := fun w' h => ynor_b A cap ps i (by omega) w' h
  have rN := fun w' h => rnor_b A cap ps i (by omega) w' h
  have cD := fun w' h => ydir_b A cap ps i (by omega) w' h
  have rD := fun w' h => rdir_b A cap ps i (by omega) w' h
  have cI := fun w' h => yinc_b B_ cap2 qs x y (by omega) w' h
  have rI := fun w' h => rinc_b B_ cap2 qs x y (by omega) w' h
  generalize (msep ps qs).1 = m1 at *
  generalize (msep ps qs).2 = m2 at *
  generalize (eNor ps i).1 = k1 at *
  generalize (eNor ps i).2 = k2 at *
  generalize (eDir ps i).1 = d1 at *
  generalize (eDir ps i).2 = d2 at *
  generalize inc qs x y = n at *
  go_enter Try.func4, Try.ntmps4
  go_upto_region 5 with (first
    | (go_at_call 11; refine Calls.mono (gw_at (cM _ (Pts.to hp (by repeat (first | with_reducible exact Below.refl _ _ | with_reducible assumption | refine bgw ?_ (by first | (simp; done) | (simp; omega) | omega) _ | refine Below.setCell ?_ (by first | exact Nat.le_of_not_lt (by assumption) | (simp; done) | (simp; omega) | omega) _ | refine Below.alloc ?_ (by first | (simp; done) | (simp; omega) | omega) _ | refine Below.drew ?_))) (Pts.to hq (by repeat (first | with_reducible exact Below.refl _ _ | with_reducible assumption | refine bgw ?_ (by first | (simp; done) | (simp; omega) | omega) _ | refine Below.setCell ?_ (by first | exact Nat.le_of_not_lt (by assumption) | (simp; done) | (simp; omega) | omega) _ | refine Below.alloc ?_ (by first | (simp; done) | (simp; omega) | omega) _ | refine Below.drew ?_))))) ?_; rintro e w1 ⟨rfl, q, rfl⟩)
    | (go_at_call 13; refine Calls.mono (gw_at (rM _ (Pts.to hp (by repeat (first | with_reducible exact Below.refl _ _ | with_reducible assumption | refine bgw ?_ (by first | (simp; done) | (simp; omega) | omega) _ | refine Below.setCell ?_ (by first | exact Nat.le_of_not_lt (by assumption) | (simp; done) | (simp; omega) | omega) _ | refine Below.alloc ?_ (by first | (simp; done) | (simp; omega) | omega) _ | refine Below.drew ?_))) (Pts.to hq (by repeat (first | with_reducible exact Below.refl _ _ | with_reducible assumption | refine bgw ?_ (by first | (simp; done) | (simp; omega) | omega) _ | refine Below.setCell ?_ (by first | exact Nat.le_of_not_lt (by assumption) | (simp; done) | (simp; omega) | omega) _ | refine Below.alloc ?_ (by first | (simp; done) | (simp; omega) | omega) _ | refine Below.drew ?_))))) ?_; rintro e w1 ⟨rfl, q, rfl⟩))
  refine wp_region_gw (by kernel_rfl) (by kernel_rfl) ?_
  repeat (go_big_quiet_step (first
    | (go_at_call 14; exact gw_call (cN _ (Pts.to hp (by repeat (first | with_reducible exact Below.refl _ _ | with_reducible assumption | refine bgw ?_ (by first | (simp; done) | (simp; omega) | omega) _ | refine Below.setCell ?_ (by first | exact Nat.le_of_not_lt (by assumption) | (simp; done) | (simp; omega) | omega) _ | refine Below.alloc ?_ (by first | (simp; done) | (simp; omega) | omega) _ | refine Below.drew ?_)))))
    | (go_at_call 15; exact gw_call (rN _ (Pts.to hp (by repeat (first | with_reducible exact Below.refl _ _ | with_reducible assumption | refine bgw ?_ (by first | (simp; done) | (simp; omega) | omega) _ | refine Below.setCell ?_ (by first | exact Nat.le_of_not_lt (by assumption) | (simp; done) | (simp; omega) | omega) _ | refine Below.alloc ?_ (by first | (simp; done) | (simp; omega) | omega) _ | refine Below.drew ?_)))))
    | (go_at_call 16; exact gw_call (cD _ (Pts.to hp (by repeat (first | with_reducible exact Below.refl _ _ | with_reducible assumption | refine bgw ?_ (by first | (simp; done) | (simp; omega) | omega) _ | refine Below.setCell ?_ (by first | exact Nat.le_of_not_lt (by assumption) | (simp; done) | (simp; omega) | omega) _ | refine Below.alloc ?_ (by first | (simp; done) | (simp; omega) | omega) _ | refine Below.drew ?_)))))
    | (go_at_call 17; exact gw_call (rD _ (Pts.to hp (by repeat (first | with_reducible exact Below.refl _ _ | with_reducible assumption | refine bgw ?_ (by first | (simp; done) | (simp; omega) | omega) _ | refine Below.setCell ?_ (by first | exact Nat.le_of_not_lt (by assumption) | (simp; done) | (simp; omega) | omega) _ | refine Below.alloc ?_ (by first | (simp; done) | (simp; omega) | omega) _ | refine Below.drew ?_)))))
    | (go_at_call 18; exact gw_call (cI _ (Pts.to hq (by repeat (first | with_reducible exact Below.refl _ _ | with_reducible assumption | refine bgw ?_ (by first | (simp; done) | (simp; omega) | omega) _ | refine Below.setCell ?_ (by first | exact Nat.le_of_not_lt (by assumption) | (simp; done) | (simp; omega) | omega) _ | refine Below.alloc ?_ (by first | (simp; done) | (simp; omega) | omega) _ | refine Below.drew ?_)))))
    | (go_at_call 19; exact gw_call (rI _ (Pts.to hq (by repeat (first | with_reducible exact Below.refl _ _ | with_reducible assumption | refine bgw ?_ (by first | (simp; done) | (simp; omega) | omega) _ | refine Below.setCell ?_ (by first | exact Nat.le_of_not_lt (by assumption) | (simp; done) | (simp; omega) | omega) _ | refine Below.alloc ?_ (by first | (simp; done) | (simp; omega) | omega) _ | refine Below.drew ?_)))))
    | (go_at_call 10; exact gw_call (e0 _))))
  refine wpQuiet_nil ?_
  intro w1 hw1
  obtain ⟨q, rfl⟩ := hw1
  go_wp2_with fail
  go_ret
  exact ⟨rfl, (by repeat (first | with_reducible exact Below.refl _ _ | with_reducible assumption | refine bgw ?_ (by first | (simp; done) | (simp; omega) | omega) _ | refine Below.setCell ?_ (by first | exact Nat.le_of_not_lt (by assumption) | (simp; done) | (simp; omega) | omega) _ | refine Below.alloc ?_ (by first | (simp; done) | (simp; omega) | omega) _ | refine Below.drew ?_))⟩

theorem unit_in (c l : Int) : -536870911 ≤ unit c l ∧ unit c l ≤ 536870911 := by
  unfold unit
  split
  · omega
  · rw [← quo_sat]; exact ⟨sat_ge _, sat_le _⟩

set_option maxHeartbeats 4000000 in
theorem walk_SATNormalPerpendicular (A : Option Addr) (cap : Nat) (ps : List (Int × Int)) (i : Int) (w : World) (hp : Pts w A ps) (hl : ps.length ≤ cap) (hc : cap ≤ maxLen) : Calls Try.prog 5 #[.slice A ps.length cap, .int .i64 i] w fun e w' => e = .returned (.bool true) ∧ Below w.heap.size w w' := by
  have e0 := example14_b
  by_cases n1 : (20 : Int) < (ps.length : Int)
  focus
    go_enter Try.func5, Try.ntmps5
    go_wp2_with (go_at_call 10; refine Calls.mono (gw_at (e0 _)) ?_; rintro e w1 ⟨rfl, q, rfl⟩)
    go_ret
    exact ⟨rfl, (by repeat (first | with_reducible exact Below.refl _ _ | with_reducible assumption | refine bgw ?_ (by first | (simp; done) | (simp; omega) | omega) _ | refine Below.setCell ?_ (by first | exact Nat.le_of_not_lt (by assumption) | (simp; done) | (simp; omega) | omega) _ | refine Below.alloc ?_ (by first | (simp; done) | (simp; omega) | omega) _ | refine Below.drew ?_))⟩
  have cN := fun w' h => ynor_b A cap ps i (by omega) w' h
  have cD := fun w' h => ydir_b A cap ps i (by omega) w' h
  rw [eNor_eDir] at cN
  by_cases h : eOK ps i
  · have hb : -536870911 ≤ (eDir ps i).1 ∧ (eDir ps i).1 ≤ 536870911 := by unfold eDir; rw [if_pos h]; exact unit_in _ _
    obtain ⟨hb1, hb2⟩ := hb
    obtain ⟨h2, h0, h1⟩ := h
    have g1 : ¬ (ps.length : Int) < 2 := by omega
    have g2 : ¬ i < 0 := by omega
    have g3 : ¬ (ps.length : Int) ≤ i := by omega
    dsimp only at cN
    generalize (eDir ps i).1 = u at *
    generalize (eDir ps i).2 = v at *
    clear h0 h1 h2
    go_enter Try.func5, Try.ntmps5
    go_wp2_with (first
      | (go_at_call 14; refine Calls.mono (gw_at (cN _ (Pts.to hp (by repeat (first | with_reducible exact Below.refl _ _ | with_reducible assumption | refine bgw ?_ (by first | (simp; done) | (simp; omega) | omega) _ | refine Below.setCell ?_ (by first | exact Nat.le_of_not_lt (by assumption) | (simp; done) | (simp; omega) | omega) _ | refine Below.alloc ?_ (by first | (simp; done) | (simp; omega) | omega) _ | refine Below.drew ?_))))) ?_; rintro e w1 ⟨rfl, q, rfl⟩)
      | (go_at_call 16; refine Calls.mono (gw_at (cD _ (Pts.to hp (by repeat (first | with_reducible exact Below.refl _ _ | with_reducible assumption | refine bgw ?_ (by first | (simp; done) | (simp; omega) | omega) _ | refine Below.setCell ?_ (by first | exact Nat.le_of_not_lt (by assumption) | (simp; done) | (simp; omega) | omega) _ | refine Below.alloc ?_ (by first | (simp; done) | (simp; omega) | omega) _ | refine Below.drew ?_))))) ?_; rintro e w1 ⟨rfl, q, rfl⟩)
      | (go_at_call 10; refine Calls.mono (gw_at (e0 _)) ?_; rintro e w1 ⟨rfl, q, rfl⟩))
    go_ret
    exact ⟨rfl, (by repeat (first | with_reducible exact Below.refl _ _ | with_reducible assumption | refine bgw ?_ (by first | (simp; done) | (simp; omega) | omega) _ | refine Below.setCell ?_ (by first | exact Nat.le_of_not_lt (by assumption) | (simp; done) | (simp; omega) | omega) _ | refine Below.alloc ?_ (by first | (simp; done) | (simp; omega) | omega) _ | refine Below.drew ?_))⟩
  · rw [show eDir ps i = (0, 0) from if_neg h] at cN cD
    dsimp only at cN cD
    have hcase : (ps.length : Int) < 2 ∨ (¬ (ps.length : Int) < 2 ∧ i < 0) ∨ (¬ (ps.length : Int) < 2 ∧ ¬ i < 0 ∧ (ps.length : Int) ≤ i) := by unfold eOK at h; omega
    clear h
    rcases hcase with c | ⟨c, d⟩ | ⟨c, d, f⟩
    all_goals
      go_enter Try.func5, Try.ntmps5
      go_wp2_with (first
        | (go_at_call 14; refine Calls.mono (gw_at (cN _ (Pts.to hp (by repeat (first | with_reducible exact Below.refl _ _ | with_reducible assumption | refine bgw ?_ (by first | (simp; done) | (simp; omega) | omega) _ | refine Below.setCell ?_ (by first | exact Nat.le_of_not_lt (by assumption) | (simp; done) | (simp; omega) | omega) _ | refine Below.alloc ?_ (by first | (simp; done) | (simp; omega) | omega) _ | refine Below.drew ?_))))) ?_; rintro e w1 ⟨rfl, q, rfl⟩)
        | (go_at_call 16; refine Calls.mono (gw_at (cD _ (Pts.to hp (by repeat (first | with_reducible exact Below.refl _ _ | with_reducible assumption | refine bgw ?_ (by first | (simp; done) | (simp; omega) | omega) _ | refine Below.setCell ?_ (by first | exact Nat.le_of_not_lt (by assumption) | (simp; done) | (simp; omega) | omega) _ | refine Below.alloc ?_ (by first | (simp; done) | (simp; omega) | omega) _ | refine Below.drew ?_))))) ?_; rintro e w1 ⟨rfl, q, rfl⟩)
        | (go_at_call 10; refine Calls.mono (gw_at (e0 _)) ?_; rintro e w1 ⟨rfl, q, rfl⟩))
      go_ret
      exact ⟨rfl, (by repeat (first | with_reducible exact Below.refl _ _ | with_reducible assumption | refine bgw ?_ (by first | (simp; done) | (simp; omega) | omega) _ | refine Below.setCell ?_ (by first | exact Nat.le_of_not_lt (by assumption) | (simp; done) | (simp; omega) | omega) _ | refine Below.alloc ?_ (by first | (simp; done) | (simp; omega) | omega) _ | refine Below.drew ?_))⟩

end Go.Proofs.Ytodbbaimdbibpaa
