/- Contracts of package transform and of its reference: each returns what the Lean functions of the same meaning give, component by component, and nothing that existed has changed. No conditions. -/
import Derived.Test.YtfjjhcplbbjehaaFixV
import Derived.Test.YtfjjhcplbbjehaaFixAngBl
import Derived.Test.YtfjjhcplbbjehaaTf
set_option linter.unusedVariables false
namespace Go.Proofs.Ytfjjhcplbbjehaa
open Go.RowKit Fx

theorem inw_b (x : Int) (w : World) : Calls Try.prog 33 #[.int .i64 x] w fun e w' => e = .returned (.bool (inw x)) ∧ Below w.heap.size w w' := by
  go_enter Try.func33, Try.ntmps33
  go_wp2_with fail
  all_goals (go_ret; refine ⟨?_, (by repeat (first | with_reducible exact Below.refl _ _ | with_reducible assumption | refine bgw ?_ (by first | (simp; done) | (simp; omega) | omega) _ | refine Below.setCell ?_ (by first | exact Nat.le_of_not_lt (by assumption) | (simp; done) | (simp; omega) | omega) _ | refine Below.alloc ?_ (by first | (simp; done) | (simp; omega) | omega) _ | refine Below.drew ?_))⟩; first | rfl | (simp [inw]; done) | (simp [inw]; omega) | (simp [inw]; rw [Bool.eq_iff_iff]; first | (simp; done) | (simp; omega)))

theorem routw_b (x : Int) (w : World) : Calls Try.prog 34 #[.int .i64 x] w fun e w' => e = .returned (.bool (!inw x)) ∧ Below w.heap.size w w' := by
  go_enter Try.func34, Try.ntmps34
  go_wp2_with fail
  all_goals (go_ret; refine ⟨?_, (by repeat (first | with_reducible exact Below.refl _ _ | with_reducible assumption | refine bgw ?_ (by first | (simp; done) | (simp; omega) | omega) _ | refine Below.setCell ?_ (by first | exact Nat.le_of_not_lt (by assumption) | (simp; done) | (simp; omega) | omega) _ | refine Below.alloc ?_ (by first | (simp; done) | (simp; omega) | omega) _ | refine Below.drew ?_))⟩; first | rfl | (simp [inw]; done) | (simp [inw]; omega) | (simp [inw]; rw [Bool.eq_iff_iff]; first | (simp; done) | (simp; omega)))

theorem tval_b (px py a : Int) (w : World) : Calls Try.prog 13 #[.agg #[.int .i64 px, .int .i64 py, .int .i64 a]] w fun e w' => e = .returned (.bool (tval px py a)) ∧ Below w.heap.size w w' := by
  unfold tval
  cases h1 : inw px
  focus
    go_enter Try.func13, Try.ntmps13
    go_wp2_with (first | (go_at_call 33; (first | (refine Calls.mono (gw_at (boolIs (inw_b _ _) (b := true) (by assumption))) ?_; rintro e w1 ⟨rfl, q, rfl⟩) | (refine Calls.mono (gw_at (boolIs (inw_b _ _) (b := false) (by assumption))) ?_; rintro e w1 ⟨rfl, q, rfl⟩) | (refine Calls.mono (gw_at (inw_b _ _)) ?_; rintro e w1 ⟨rfl, q, rfl⟩))))
    all_goals (go_ret; refine ⟨?_, (by repeat (first | with_reducible exact Below.refl _ _ | with_reducible assumption | refine bgw ?_ (by first | (simp; done) | (simp; omega) | omega) _ | refine Below.setCell ?_ (by first | exact Nat.le_of_not_lt (by assumption) | (simp; done) | (simp; omega) | omega) _ | refine Below.alloc ?_ (by first | (simp; done) | (simp; omega) | omega) _ | refine Below.drew ?_))⟩; first | rfl | (simp; done) | (simp; omega) | (simp; rw [Bool.eq_iff_iff]; first | (simp; done) | (simp; omega)))
  cases h2 : inw py
  focus
    go_enter Try.func13, Try.ntmps13
    go_wp2_with (first | (go_at_call 33; (first | (refine Calls.mono (gw_at (boolIs (inw_b _ _) (b := true) (by assumption))) ?_; rintro e w1 ⟨rfl, q, rfl⟩) | (refine Calls.mono (gw_at (boolIs (inw_b _ _) (b := false) (by assumption))) ?_; rintro e w1 ⟨rfl, q, rfl⟩) | (refine Calls.mono (gw_at (inw_b _ _)) ?_; rintro e w1 ⟨rfl, q, rfl⟩))))
    all_goals (go_ret; refine ⟨?_, (by repeat (first | with_reducible exact Below.refl _ _ | with_reducible assumption | refine bgw ?_ (by first | (simp; done) | (simp; omega) | omega) _ | refine Below.setCell ?_ (by first | exact Nat.le_of_not_lt (by assumption) | (simp; done) | (simp; omega) | omega) _ | refine Below.alloc ?_ (by first | (simp; done) | (simp; omega) | omega) _ | refine Below.drew ?_))⟩; first | rfl | (simp; done) | (simp; omega) | (simp; rw [Bool.eq_iff_iff]; first | (simp; done) | (simp; omega)))
  go_enter Try.func13, Try.ntmps13
  go_wp2_with (first | (go_at_call 33; (first | (refine Calls.mono (gw_at (boolIs (inw_b _ _) (b := true) (by assumption))) ?_; rintro e w1 ⟨rfl, q, rfl⟩) | (refine Calls.mono (gw_at (boolIs (inw_b _ _) (b := false) (by assumption))) ?_; rintro e w1 ⟨rfl, q, rfl⟩) | (refine Calls.mono (gw_at (inw_b _ _)) ?_; rintro e w1 ⟨rfl, q, rfl⟩))))
  all_goals (go_ret; refine ⟨?_, (by repeat (first | with_reducible exact Below.refl _ _ | with_reducible assumption | refine bgw ?_ (by first | (simp; done) | (simp; omega) | omega) _ | refine Below.setCell ?_ (by first | exact Nat.le_of_not_lt (by assumption) | (simp; done) | (simp; omega) | omega) _ | refine Below.alloc ?_ (by first | (simp; done) | (simp; omega) | omega) _ | refine Below.drew ?_))⟩; first | rfl | (simp; done) | (simp; omega) | (simp; rw [Bool.eq_iff_iff]; first | (simp; done) | (simp; omega)))

theorem rtval_b (px py a : Int) (w : World) : Calls Try.prog 14 #[.agg #[.int .i64 px, .int .i64 py, .int .i64 a]] w fun e w' => e = .returned (.bool (tval px py a)) ∧ Below w.heap.size w w' := by
  unfold tval
  cases h1 : inw px
  focus
    go_enter Try.func14, Try.ntmps14
    go_wp2_with (first | (go_at_call 34; refine Calls.mono (gw_at (routw_b _ _)) ?_; rintro e w1 ⟨rfl, q, rfl⟩))
    all_goals (go_ret; refine ⟨?_, (by repeat (first | with_reducible exact Below.refl _ _ | with_reducible assumption | refine bgw ?_ (by first | (simp; done) | (simp; omega) | omega) _ | refine Below.setCell ?_ (by first | exact Nat.le_of_not_lt (by assumption) | (simp; done) | (simp; omega) | omega) _ | refine Below.alloc ?_ (by first | (simp; done) | (simp; omega) | omega) _ | refine Below.drew ?_))⟩; first | rfl | (simp; done) | (simp; omega) | (simp; rw [Bool.eq_iff_iff]; first | (simp; done) | (simp; omega)))
  cases h2 : inw py
  focus
    go_enter Try.func14, Try.ntmps14
    go_wp2_with (first | (go_at_call 34; refine Calls.mono (gw_at (routw_b _ _)) ?_; rintro e w1 ⟨rfl, q, rfl⟩))
    all_goals (go_ret; refine ⟨?_, (by repeat (first | with_reducible exact Below.refl _ _ | with_reducible assumption | refine bgw ?_ (by first | (simp; done) | (simp; omega) | omega) _ | refine Below.setCell ?_ (by first | exact Nat.le_of_not_lt (by assumption) | (simp; done) | (simp; omega) | omega) _ | refine Below.alloc ?_ (by first | (simp; done) | (simp; omega) | omega) _ | refine Below.drew ?_))⟩; first | rfl | (simp; done) | (simp; omega) | (simp; rw [Bool.eq_iff_iff]; first | (simp; done) | (simp; omega)))
  go_enter Try.func14, Try.ntmps14
  go_wp2_with (first | (go_at_call 34; refine Calls.mono (gw_at (routw_b _ _)) ?_; rintro e w1 ⟨rfl, q, rfl⟩))
  all_goals (go_ret; refine ⟨?_, (by repeat (first | with_reducible exact Below.refl _ _ | with_reducible assumption | refine bgw ?_ (by first | (simp; done) | (simp; omega) | omega) _ | refine Below.setCell ?_ (by first | exact Nat.le_of_not_lt (by assumption) | (simp; done) | (simp; omega) | omega) _ | refine Below.alloc ?_ (by first | (simp; done) | (simp; omega) | omega) _ | refine Below.drew ?_))⟩; first | rfl | (simp; done) | (simp; omega) | (simp; rw [Bool.eq_iff_iff]; first | (simp; done) | (simp; omega)))

theorem tang_b (a b : Int) (h : -536870911 ≤ b ∧ b ≤ 536870911) (w : World) : Calls Try.prog 35 #[.int .i64 a, .int .i64 b] w fun e w' => e = .returned (.int .i64 (tang a b)) ∧ Below w.heap.size w w' := by
  have h1 := nrm_ge a; have h2 := nrm_lt a
  obtain ⟨h3, h4⟩ := h
  go_enter Try.func35, Try.ntmps35
  go_wp2_with (first | (go_at_call 36; refine Calls.mono (gw_at (nrm_b _ _)) ?_; rintro e w1 ⟨rfl, q, rfl⟩))
  go_ret
  exact ⟨rfl, (by repeat (first | with_reducible exact Below.refl _ _ | with_reducible assumption | refine bgw ?_ (by first | (simp; done) | (simp; omega) | omega) _ | refine Below.setCell ?_ (by first | exact Nat.le_of_not_lt (by assumption) | (simp; done) | (simp; omega) | omega) _ | refine Below.alloc ?_ (by first | (simp; done) | (simp; omega) | omega) _ | refine Below.drew ?_))⟩

theorem prod_b (a b : Int) (w : World) : Calls Try.prog 39 #[.int .i64 a, .int .i64 b] w fun e w' => e = .returned (.int .i64 (mul a b)) ∧ Below w.heap.size w w' := by
  go_enter Try.func39, Try.ntmps39
  go_wp2_with (first | (go_at_call 44; refine Calls.mono (gw_at (vscale_b _ _ _ _)) ?_; rintro e w1 ⟨rfl, q, rfl⟩))
  go_ret
  exact ⟨rfl, (by repeat (first | with_reducible exact Below.refl _ _ | with_reducible assumption | refine bgw ?_ (by first | (simp; done) | (simp; omega) | omega) _ | refine Below.setCell ?_ (by first | exact Nat.le_of_not_lt (by assumption) | (simp; done) | (simp; omega) | omega) _ | refine Below.alloc ?_ (by first | (simp; done) | (simp; omega) | omega) _ | refine Below.drew ?_))⟩

theorem tapp_b (px py a vx vy : Int) (w : World) : Calls Try.prog 9 #[.agg #[.int .i64 px, .int .i64 py, .int .i64 a], .agg #[.int .i64 vx, .int .i64 vy]] w fun e w' => e = .returned (.agg #[.int .i64 (tpx px a vx vy), .int .i64 (tpy py a vx vy)]) ∧ Below w.heap.size w w' := by
  go_enter Try.func9, Try.ntmps9
  go_wp2_with (first | (go_at_call 26; refine Calls.mono (gw_at (rot_b _ _)) ?_; rintro e w1 ⟨rfl, q, rfl⟩) | (go_at_call 25; refine Calls.mono (gw_at (vrot_b _ _ _ _ _)) ?_; rintro e w1 ⟨rfl, q, rfl⟩) | (go_at_call 23; refine Calls.mono (gw_at (vadd_b _ _ _ _ _)) ?_; rintro e w1 ⟨rfl, q, rfl⟩))
  repeat
    refine wp_region_gw_tail 8 (by kernel_rfl) (by kernel_rfl) ?_
    simp only [List.take_succ_cons, List.take_zero, List.drop_succ_cons, List.drop_zero]
    repeat (go_big_quiet_step ((first | (go_at_call 26; exact gw_call (rot_b _ _)) | (go_at_call 25; exact gw_call (vrot_b _ _ _ _ _)) | (go_at_call 23; exact gw_call (vadd_b _ _ _ _ _)))))
    refine wpQuiet_nil ?_
    intro w1 hw1
    obtain ⟨q, rfl⟩ := hw1
    go_wp2_with (first | (go_at_call 26; refine Calls.mono (gw_at (rot_b _ _)) ?_; rintro e w1 ⟨rfl, q, rfl⟩) | (go_at_call 25; refine Calls.mono (gw_at (vrot_b _ _ _ _ _)) ?_; rintro e w1 ⟨rfl, q, rfl⟩) | (go_at_call 23; refine Calls.mono (gw_at (vadd_b _ _ _ _ _)) ?_; rintro e w1 ⟨rfl, q, rfl⟩))
  exact bodyPost_ret (v := .agg #[.int .i64 (tpx px a vx vy), .int .i64 (tpy py a vx vy)]) (by simp [results, Try.results9, go_sem]; try (first | with_reducible rfl | exact ⟨rfl, rfl⟩ | exact ⟨rfl, rfl, rfl⟩ | exact ⟨rfl, rfl, rfl, rfl⟩ | exact ⟨rfl, rfl, rfl, rfl, rfl⟩ | exact ⟨rfl, rfl, rfl, rfl, rfl, rfl⟩ | rfl)) rfl ⟨rfl, (by repeat (first | with_reducible exact Below.refl _ _ | with_reducible assumption | refine bgw ?_ (by first | (simp; done) | (simp; omega) | omega) _ | refine Below.setCell ?_ (by first | exact Nat.le_of_not_lt (by assumption) | (simp; done) | (simp; omega) | omega) _ | refine Below.alloc ?_ (by first | (simp; done) | (simp; omega) | omega) _ | refine Below.drew ?_))⟩

theorem rtapp_b (px py a vx vy : Int) (w : World) : Calls Try.prog 10 #[.agg #[.int .i64 px, .int .i64 py, .int .i64 a], .agg #[.int .i64 vx, .int .i64 vy]] w fun e w' => e = .returned (.agg #[.int .i64 (tpx px a vx vy), .int .i64 (tpy py a vx vy)]) ∧ Below w.heap.size w w' := by
  go_enter Try.func10, Try.ntmps10
  go_wp2_with (first | (go_at_call 29; refine Calls.mono (gw_at (rrot_b _ _)) ?_; rintro e w1 ⟨rfl, q, rfl⟩) | (go_at_call 28; refine Calls.mono (gw_at (rvrot_b _ _ _ _ _)) ?_; rintro e w1 ⟨rfl, q, rfl⟩) | (go_at_call 27; refine Calls.mono (gw_at (rvadd_b _ _ _ _ _)) ?_; rintro e w1 ⟨rfl, q, rfl⟩))
  repeat
    refine wp_region_gw_tail 8 (by kernel_rfl) (by kernel_rfl) ?_
    simp only [List.take_succ_cons, List.take_zero, List.drop_succ_cons, List.drop_zero]
    repeat (go_big_quiet_step ((first | (go_at_call 29; exact gw_call (rrot_b _ _)) | (go_at_call 28; exact gw_call (rvrot_b _ _ _ _ _)) | (go_at_call 27; exact gw_call (rvadd_b _ _ _ _ _)))))
    refine wpQuiet_nil ?_
    intro w1 hw1
    obtain ⟨q, rfl⟩ := hw1
    go_wp2_with (first | (go_at_call 29; refine Calls.mono (gw_at (rrot_b _ _)) ?_; rintro e w1 ⟨rfl, q, rfl⟩) | (go_at_call 28; refine Calls.mono (gw_at (rvrot_b _ _ _ _ _)) ?_; rintro e w1 ⟨rfl, q, rfl⟩) | (go_at_call 27; refine Calls.mono (gw_at (rvadd_b _ _ _ _ _)) ?_; rintro e w1 ⟨rfl, q, rfl⟩))
  exact bodyPost_ret (v := .agg #[.int .i64 (tpx px a vx vy), .int .i64 (tpy py a vx vy)]) (by simp [results, Try.results10, go_sem]; try (first | with_reducible rfl | exact ⟨rfl, rfl⟩ | exact ⟨rfl, rfl, rfl⟩ | exact ⟨rfl, rfl, rfl, rfl⟩ | exact ⟨rfl, rfl, rfl, rfl, rfl⟩ | exact ⟨rfl, rfl, rfl, rfl, rfl, rfl⟩ | rfl)) rfl ⟨rfl, (by repeat (first | with_reducible exact Below.refl _ _ | with_reducible assumption | refine bgw ?_ (by first | (simp; done) | (simp; omega) | omega) _ | refine Below.setCell ?_ (by first | exact Nat.le_of_not_lt (by assumption) | (simp; done) | (simp; omega) | omega) _ | refine Below.alloc ?_ (by first | (simp; done) | (simp; omega) | omega) _ | refine Below.drew ?_))⟩

theorem tinv_b (px py a vx vy : Int) (w : World) : Calls Try.prog 11 #[.agg #[.int .i64 px, .int .i64 py, .int .i64 a], .agg #[.int .i64 vx, .int .i64 vy]] w fun e w' => e = .returned (.agg #[.int .i64 (tqx px py a vx vy), .int .i64 (tqy px py a vx vy)]) ∧ Below w.heap.size w w' := by
  go_enter Try.func11, Try.ntmps11
  go_wp2_with (first | (go_at_call 26; refine Calls.mono (gw_at (rot_b _ _)) ?_; rintro e w1 ⟨rfl, q, rfl⟩) | (go_at_call 24; refine Calls.mono (gw_at (vsub_b _ _ _ _ _)) ?_; rintro e w1 ⟨rfl, q, rfl⟩) | (go_at_call 30; refine Calls.mono (gw_at (virot_b _ _ _ _ _)) ?_; rintro e w1 ⟨rfl, q, rfl⟩))
  repeat
    refine wp_region_gw_tail 8 (by kernel_rfl) (by kernel_rfl) ?_
    simp only [List.take_succ_cons, List.take_zero, List.drop_succ_cons, List.drop_zero]
    repeat (go_big_quiet_step ((first | (go_at_call 26; exact gw_call (rot_b _ _)) | (go_at_call 24; exact gw_call (vsub_b _ _ _ _ _)) | (go_at_call 30; exact gw_call (virot_b _ _ _ _ _)))))
    refine wpQuiet_nil ?_
    intro w1 hw1
    obtain ⟨q, rfl⟩ := hw1
    go_wp2_with (first | (go_at_call 26; refine Calls.mono (gw_at (rot_b _ _)) ?_; rintro e w1 ⟨rfl, q, rfl⟩) | (go_at_call 24; refine Calls.mono (gw_at (vsub_b _ _ _ _ _)) ?_; rintro e w1 ⟨rfl, q, rfl⟩) | (go_at_call 30; refine Calls.mono (gw_at (virot_b _ _ _ _ _)) ?_; rintro e w1 ⟨rfl, q, rfl⟩))
  exact bodyPost_ret (v := .agg #[.int .i64 (tqx px py a vx vy), .int .i64 (tqy px py a vx vy)]) (by simp [results, Try.results11, go_sem]; try (first | with_reducible rfl | exact ⟨rfl, rfl⟩ | exact ⟨rfl, rfl, rfl⟩ | exact ⟨rfl, rfl, rfl, rfl⟩ | exact ⟨rfl, rfl, rfl, rfl, rfl⟩ | exact ⟨rfl, rfl, rfl, rfl, rfl, rfl⟩ | rfl)) rfl ⟨rfl, (by repeat (first | with_reducible exact Below.refl _ _ | with_reducible assumption | refine bgw ?_ (by first | (simp; done) | (simp; omega) | omega) _ | refine Below.setCell ?_ (by first | exact Nat.le_of_not_lt (by assumption) | (simp; done) | (simp; omega) | omega) _ | refine Below.alloc ?_ (by first | (simp; done) | (simp; omega) | omega) _ | refine Below.drew ?_))⟩

theorem rtinv_b (px py a vx vy : Int) (w : World) : Calls Try.prog 12 #[.agg #[.int .i64 px, .int .i64 py, .int .i64 a], .agg #[.int .i64 vx, .int .i64 vy]] w fun e w' => e = .returned (.agg #[.int .i64 (tqx px py a vx vy), .int .i64 (tqy px py a vx vy)]) ∧ Below w.heap.size w w' := by
  go_enter Try.func12, Try.ntmps12
  go_wp2_with (first | (go_at_call 29; refine Calls.mono (gw_at (rrot_b _ _)) ?_; rintro e w1 ⟨rfl, q, rfl⟩) | (go_at_call 32; refine Calls.mono (gw_at (rvsub_b _ _ _ _ _)) ?_; rintro e w1 ⟨rfl, q, rfl⟩) | (go_at_call 31; refine Calls.mono (gw_at (rvirot_b _ _ _ _ _)) ?_; rintro e w1 ⟨rfl, q, rfl⟩))
  repeat
    refine wp_region_gw_tail 8 (by kernel_rfl) (by kernel_rfl) ?_
    simp only [List.take_succ_cons, List.take_zero, List.drop_succ_cons, List.drop_zero]
    repeat (go_big_quiet_step ((first | (go_at_call 29; exact gw_call (rrot_b _ _)) | (go_at_call 32; exact gw_call (rvsub_b _ _ _ _ _)) | (go_at_call 31; exact gw_call (rvirot_b _ _ _ _ _)))))
    refine wpQuiet_nil ?_
    intro w1 hw1
    obtain ⟨q, rfl⟩ := hw1
    go_wp2_with (first | (go_at_call 29; refine Calls.mono (gw_at (rrot_b _ _)) ?_; rintro e w1 ⟨rfl, q, rfl⟩) | (go_at_call 32; refine Calls.mono (gw_at (rvsub_b _ _ _ _ _)) ?_; rintro e w1 ⟨rfl, q, rfl⟩) | (go_at_call 31; refine Calls.mono (gw_at (rvirot_b _ _ _ _ _)) ?_; rintro e w1 ⟨rfl, q, rfl⟩))
  exact bodyPost_ret (v := .agg #[.int .i64 (tqx px py a vx vy), .int .i64 (tqy px py a vx vy)]) (by simp [results, Try.results12, go_sem]; try (first | with_reducible rfl | exact ⟨rfl, rfl⟩ | exact ⟨rfl, rfl, rfl⟩ | exact ⟨rfl, rfl, rfl, rfl⟩ | exact ⟨rfl, rfl, rfl, rfl, rfl⟩ | exact ⟨rfl, rfl, rfl, rfl, rfl, rfl⟩ | rfl)) rfl ⟨rfl, (by repeat (first | with_reducible exact Below.refl _ _ | with_reducible assumption | refine bgw ?_ (by first | (simp; done) | (simp; omega) | omega) _ | refine Below.setCell ?_ (by first | exact Nat.le_of_not_lt (by assumption) | (simp; done) | (simp; omega) | omega) _ | refine Below.alloc ?_ (by first | (simp; done) | (simp; omega) | omega) _ | refine Below.drew ?_))⟩

theorem tmul_b (ax ay aa bx b_y ba : Int) (w : World) : Calls Try.prog 16 #[.agg #[.int .i64 ax, .int .i64 ay, .int .i64 aa], .agg #[.int .i64 bx, .int .i64 b_y, .int .i64 ba]] w fun e w' => e = .returned (.agg #[.int .i64 (tpx ax aa bx b_y), .int .i64 (tpy ay aa bx b_y), .int .i64 (tang aa (nrm ba))]) ∧ Below w.heap.size w w' := by
  have h1 := nrm_ge aa; have h2 := nrm_lt aa; have h3 := nrm_ge ba; have h4 := nrm_lt ba
  have hb : -536870911 ≤ nrm ba ∧ nrm ba ≤ 536870911 := by omega
  go_enter Try.func16, Try.ntmps16
  go_wp2_with (first | (go_at_call 9; refine Calls.mono (gw_at (tapp_b _ _ _ _ _ _)) ?_; rintro e w1 ⟨rfl, q, rfl⟩) | (go_at_call 36; refine Calls.mono (gw_at (nrm_b _ _)) ?_; rintro e w1 ⟨rfl, q, rfl⟩) | (go_at_call 35; refine Calls.mono (gw_at (tang_b _ _ (by assumption) _)) ?_; rintro e w1 ⟨rfl, q, rfl⟩))
  repeat
    refine wp_region_gw_tail 11 (by kernel_rfl) (by kernel_rfl) ?_
    simp only [List.take_succ_cons, List.take_zero, List.drop_succ_cons, List.drop_zero]
    repeat (go_big_quiet_step ((first | (go_at_call 9; exact gw_call (tapp_b _ _ _ _ _ _)) | (go_at_call 36; exact gw_call (nrm_b _ _)) | (go_at_call 35; exact gw_call (tang_b _ _ (by assumption) _)))))
    refine wpQuiet_nil ?_
    intro w1 hw1
    obtain ⟨q, rfl⟩ := hw1
    go_wp2_with (first | (go_at_call 9; refine Calls.mono (gw_at (tapp_b _ _ _ _ _ _)) ?_; rintro e w1 ⟨rfl, q, rfl⟩) | (go_at_call 36; refine Calls.mono (gw_at (nrm_b _ _)) ?_; rintro e w1 ⟨rfl, q, rfl⟩) | (go_at_call 35; refine Calls.mono (gw_at (tang_b _ _ (by assumption) _)) ?_; rintro e w1 ⟨rfl, q, rfl⟩))
  exact bodyPost_ret (v := .agg #[.int .i64 (tpx ax aa bx b_y), .int .i64 (tpy ay aa bx b_y), .int .i64 (tang aa (nrm ba))]) (by simp [results, Try.results16, go_sem]; try (first | with_reducible rfl | exact ⟨rfl, rfl⟩ | exact ⟨rfl, rfl, rfl⟩ | exact ⟨rfl, rfl, rfl, rfl⟩ | exact ⟨rfl, rfl, rfl, rfl, rfl⟩ | exact ⟨rfl, rfl, rfl, rfl, rfl, rfl⟩ | rfl)) rfl ⟨rfl, (by repeat (first | with_reducible exact Below.refl _ _ | with_reducible assumption | refine bgw ?_ (by first | (simp; done) | (simp; omega) | omega) _ | refine Below.setCell ?_ (by first | exact Nat.le_of_not_lt (by assumption) | (simp; done) | (simp; omega) | omega) _ | refine Below.alloc ?_ (by first | (simp; done) | (simp; omega) | omega) _ | refine Below.drew ?_))⟩

theorem rtmul_b (ax ay aa bx b_y ba : Int) (w : World) : Calls Try.prog 17 #[.agg #[.int .i64 ax, .int .i64 ay, .int .i64 aa], .agg #[.int .i64 bx, .int .i64 b_y, .int .i64 ba]] w fun e w' => e = .returned (.agg #[.int .i64 (tpx ax aa bx b_y), .int .i64 (tpy ay aa bx b_y), .int .i64 (tang aa (nrm ba))]) ∧ Below w.heap.size w w' := by
  have h1 := nrm_ge aa; have h2 := nrm_lt aa; have h3 := nrm_ge ba; have h4 := nrm_lt ba
  go_enter Try.func17, Try.ntmps17
  go_wp2_with (first | (go_at_call 10; refine Calls.mono (gw_at (rtapp_b _ _ _ _ _ _)) ?_; rintro e w1 ⟨rfl, q, rfl⟩) | (go_at_call 37; refine Calls.mono (gw_at (rnrm_b _ _)) ?_; rintro e w1 ⟨rfl, q, rfl⟩))
  repeat
    refine wp_region_gw_tail 13 (by kernel_rfl) (by kernel_rfl) ?_
    simp only [List.take_succ_cons, List.take_zero, List.drop_succ_cons, List.drop_zero]
    repeat (go_big_quiet_step ((first | (go_at_call 10; exact gw_call (rtapp_b _ _ _ _ _ _)) | (go_at_call 37; exact gw_call (rnrm_b _ _)))))
    refine wpQuiet_nil ?_
    intro w1 hw1
    obtain ⟨q, rfl⟩ := hw1
    go_wp2_with (first | (go_at_call 10; refine Calls.mono (gw_at (rtapp_b _ _ _ _ _ _)) ?_; rintro e w1 ⟨rfl, q, rfl⟩) | (go_at_call 37; refine Calls.mono (gw_at (rnrm_b _ _)) ?_; rintro e w1 ⟨rfl, q, rfl⟩))
  exact bodyPost_ret (v := .agg #[.int .i64 (tpx ax aa bx b_y), .int .i64 (tpy ay aa bx b_y), .int .i64 (tang aa (nrm ba))]) (by simp [results, Try.results17, go_sem]; try (first | with_reducible rfl | exact ⟨rfl, rfl⟩ | exact ⟨rfl, rfl, rfl⟩ | exact ⟨rfl, rfl, rfl, rfl⟩ | exact ⟨rfl, rfl, rfl, rfl, rfl⟩ | exact ⟨rfl, rfl, rfl, rfl, rfl, rfl⟩ | rfl)) rfl ⟨rfl, (by repeat (first | with_reducible exact Below.refl _ _ | with_reducible assumption | refine bgw ?_ (by first | (simp; done) | (simp; omega) | omega) _ | refine Below.setCell ?_ (by first | exact Nat.le_of_not_lt (by assumption) | (simp; done) | (simp; omega) | omega) _ | refine Below.alloc ?_ (by first | (simp; done) | (simp; omega) | omega) _ | refine Below.drew ?_))⟩

theorem tint_b (ax ay aa bx b_y ba t : Int) (w : World) : Calls Try.prog 18 #[.agg #[.int .i64 ax, .int .i64 ay, .int .i64 aa], .agg #[.int .i64 bx, .int .i64 b_y, .int .i64 ba], .int .i64 t] w fun e w' => e = .returned (.agg #[.int .i64 (lerp ax bx t), .int .i64 (lerp ay b_y t), .int .i64 (tang aa (mul (dif aa ba) t))]) ∧ Below w.heap.size w w' := by
  have h1 := nrm_ge aa; have h2 := nrm_lt aa
  have hb := mul_sat (dif aa ba) t
  have hb1 := hb.1; have hb2 := hb.2
  go_enter Try.func18, Try.ntmps18
  go_wp2_with (first | (go_at_call 38; refine Calls.mono (gw_at (vlerp_b _ _ _ _ _ _)) ?_; rintro e w1 ⟨rfl, q, rfl⟩) | (go_at_call 40; refine Calls.mono (gw_at (dif_b _ _ _)) ?_; rintro e w1 ⟨rfl, q, rfl⟩) | (go_at_call 39; refine Calls.mono (gw_at (prod_b _ _ _)) ?_; rintro e w1 ⟨rfl, q, rfl⟩) | (go_at_call 35; refine Calls.mono (gw_at (tang_b _ _ (by assumption) _)) ?_; rintro e w1 ⟨rfl, q, rfl⟩))
  repeat
    refine wp_region_gw_tail 17 (by kernel_rfl) (by kernel_rfl) ?_
    simp only [List.take_succ_cons, List.take_zero, List.drop_succ_cons, List.drop_zero]
    repeat (go_big_quiet_step ((first | (go_at_call 38; exact gw_call (vlerp_b _ _ _ _ _ _)) | (go_at_call 40; exact gw_call (dif_b _ _ _)) | (go_at_call 39; exact gw_call (prod_b _ _ _)) | (go_at_call 35; exact gw_call (tang_b _ _ (by assumption) _)))))
    refine wpQuiet_nil ?_
    intro w1 hw1
    obtain ⟨q, rfl⟩ := hw1
    go_wp2_with (first | (go_at_call 38; refine Calls.mono (gw_at (vlerp_b _ _ _ _ _ _)) ?_; rintro e w1 ⟨rfl, q, rfl⟩) | (go_at_call 40; refine Calls.mono (gw_at (dif_b _ _ _)) ?_; rintro e w1 ⟨rfl, q, rfl⟩) | (go_at_call 39; refine Calls.mono (gw_at (prod_b _ _ _)) ?_; rintro e w1 ⟨rfl, q, rfl⟩) | (go_at_call 35; refine Calls.mono (gw_at (tang_b _ _ (by assumption) _)) ?_; rintro e w1 ⟨rfl, q, rfl⟩))
  exact bodyPost_ret (v := .agg #[.int .i64 (lerp ax bx t), .int .i64 (lerp ay b_y t), .int .i64 (tang aa (mul (dif aa ba) t))]) (by simp [results, Try.results18, go_sem]; try (first | with_reducible rfl | exact ⟨rfl, rfl⟩ | exact ⟨rfl, rfl, rfl⟩ | exact ⟨rfl, rfl, rfl, rfl⟩ | exact ⟨rfl, rfl, rfl, rfl, rfl⟩ | exact ⟨rfl, rfl, rfl, rfl, rfl, rfl⟩ | rfl)) rfl ⟨rfl, (by repeat (first | with_reducible exact Below.refl _ _ | with_reducible assumption | refine bgw ?_ (by first | (simp; done) | (simp; omega) | omega) _ | refine Below.setCell ?_ (by first | exact Nat.le_of_not_lt (by assumption) | (simp; done) | (simp; omega) | omega) _ | refine Below.alloc ?_ (by first | (simp; done) | (simp; omega) | omega) _ | refine Below.drew ?_))⟩

theorem rtint_b (ax ay aa bx b_y ba t : Int) (w : World) : Calls Try.prog 19 #[.agg #[.int .i64 ax, .int .i64 ay, .int .i64 aa], .agg #[.int .i64 bx, .int .i64 b_y, .int .i64 ba], .int .i64 t] w fun e w' => e = .returned (.agg #[.int .i64 (lerp ax bx t), .int .i64 (lerp ay b_y t), .int .i64 (tang aa (mul (dif aa ba) t))]) ∧ Below w.heap.size w w' := by
  have h1 := nrm_ge aa; have h2 := nrm_lt aa
  have hb := mul_sat (dif aa ba) t
  have hb1 := hb.1; have hb2 := hb.2
  go_enter Try.func19, Try.ntmps19
  go_wp2_with (first | (go_at_call 42; refine Calls.mono (gw_at (rdif_b _ _ _)) ?_; rintro e w1 ⟨rfl, q, rfl⟩) | (go_at_call 41; refine Calls.mono (gw_at (rmul_b _ _ _)) ?_; rintro e w1 ⟨rfl, q, rfl⟩) | (go_at_call 43; refine Calls.mono (gw_at (rvlerp_b _ _ _ _ _ _)) ?_; rintro e w1 ⟨rfl, q, rfl⟩) | (go_at_call 37; refine Calls.mono (gw_at (rnrm_b _ _)) ?_; rintro e w1 ⟨rfl, q, rfl⟩))
  repeat
    refine wp_region_gw_tail 13 (by kernel_rfl) (by kernel_rfl) ?_
    simp only [List.take_succ_cons, List.take_zero, List.drop_succ_cons, List.drop_zero]
    repeat (go_big_quiet_step ((first | (go_at_call 42; exact gw_call (rdif_b _ _ _)) | (go_at_call 41; exact gw_call (rmul_b _ _ _)) | (go_at_call 43; exact gw_call (rvlerp_b _ _ _ _ _ _)) | (go_at_call 37; exact gw_call (rnrm_b _ _)))))
    refine wpQuiet_nil ?_
    intro w1 hw1
    obtain ⟨q, rfl⟩ := hw1
    go_wp2_with (first | (go_at_call 42; refine Calls.mono (gw_at (rdif_b _ _ _)) ?_; rintro e w1 ⟨rfl, q, rfl⟩) | (go_at_call 41; refine Calls.mono (gw_at (rmul_b _ _ _)) ?_; rintro e w1 ⟨rfl, q, rfl⟩) | (go_at_call 43; refine Calls.mono (gw_at (rvlerp_b _ _ _ _ _ _)) ?_; rintro e w1 ⟨rfl, q, rfl⟩) | (go_at_call 37; refine Calls.mono (gw_at (rnrm_b _ _)) ?_; rintro e w1 ⟨rfl, q, rfl⟩))
  exact bodyPost_ret (v := .agg #[.int .i64 (lerp ax bx t), .int .i64 (lerp ay b_y t), .int .i64 (tang aa (mul (dif aa ba) t))]) (by simp [results, Try.results19, go_sem]; try (first | with_reducible rfl | exact ⟨rfl, rfl⟩ | exact ⟨rfl, rfl, rfl⟩ | exact ⟨rfl, rfl, rfl, rfl⟩ | exact ⟨rfl, rfl, rfl, rfl, rfl⟩ | exact ⟨rfl, rfl, rfl, rfl, rfl, rfl⟩ | rfl)) rfl ⟨rfl, (by repeat (first | with_reducible exact Below.refl _ _ | with_reducible assumption | refine bgw ?_ (by first | (simp; done) | (simp; omega) | omega) _ | refine Below.setCell ?_ (by first | exact Nat.le_of_not_lt (by assumption) | (simp; done) | (simp; omega) | omega) _ | refine Below.alloc ?_ (by first | (simp; done) | (simp; omega) | omega) _ | refine Below.drew ?_))⟩

theorem tgr_b (px py a cx cy vx vy k dt : Int) (w : World) : Calls Try.prog 20 #[.agg #[.int .i64 px, .int .i64 py, .int .i64 a], .agg #[.int .i64 cx, .int .i64 cy], .agg #[.int .i64 vx, .int .i64 vy], .int .i64 k, .int .i64 dt] w fun e w' => e = .returned (.agg #[.int .i64 (tgx px a cx cy vx k dt), .int .i64 (tgy py a cx cy vy k dt), .int .i64 (tang a (mul k dt))]) ∧ Below w.heap.size w w' := by
  have h1 := nrm_ge a; have h2 := nrm_lt a
  have hb := mul_sat k dt
  have hb1 := hb.1; have hb2 := hb.2
  go_enter Try.func20, Try.ntmps20
  go_wp2_with (first | (go_at_call 9; refine Calls.mono (gw_at (tapp_b _ _ _ _ _ _)) ?_; rintro e w1 ⟨rfl, q, rfl⟩) | (go_at_call 44; refine Calls.mono (gw_at (vscale_b _ _ _ _)) ?_; rintro e w1 ⟨rfl, q, rfl⟩) | (go_at_call 23; refine Calls.mono (gw_at (vadd_b _ _ _ _ _)) ?_; rintro e w1 ⟨rfl, q, rfl⟩) | (go_at_call 39; refine Calls.mono (gw_at (prod_b _ _ _)) ?_; rintro e w1 ⟨rfl, q, rfl⟩) | (go_at_call 35; refine Calls.mono (gw_at (tang_b _ _ (by assumption) _)) ?_; rintro e w1 ⟨rfl, q, rfl⟩) | (go_at_call 26; refine Calls.mono (gw_at (rot_b _ _)) ?_; rintro e w1 ⟨rfl, q, rfl⟩) | (go_at_call 25; refine Calls.mono (gw_at (vrot_b _ _ _ _ _)) ?_; rintro e w1 ⟨rfl, q, rfl⟩) | (go_at_call 24; refine Calls.mono (gw_at (vsub_b _ _ _ _ _)) ?_; rintro e w1 ⟨rfl, q, rfl⟩))
  repeat
    first
      | (apply wp_box1 8 34 7 11 #[.int .i64 0, .int .i64 0] 23 (by kernel_rfl) (by rfl) (by decide +kernel) (by intro o ho a w; simp at ho; subst ho; simp [go_sem, ptr])
         · intro p0
           simp only [heads, ghost, List.take_succ_cons, List.take_zero, List.map_cons, List.map_nil]
           repeat (go_big_quiet_step ((first | (go_at_call 9; exact gw_call (tapp_b _ _ _ _ _ _)) | (go_at_call 44; exact gw_call (vscale_b _ _ _ _)) | (go_at_call 23; exact gw_call (vadd_b _ _ _ _ _)) | (go_at_call 39; exact gw_call (prod_b _ _ _)) | (go_at_call 35; exact gw_call (tang_b _ _ (by assumption) _)) | (go_at_call 26; exact gw_call (rot_b _ _)) | (go_at_call 25; exact gw_call (vrot_b _ _ _ _ _)) | (go_at_call 24; exact gw_call (vsub_b _ _ _ _ _)))))
           exact wpQuiet_nil rfl
         · intro R bB p0 nB gB  kB hK
           simp only [List.drop_succ_cons, List.drop_zero, Act.put, ptr, List.setIfInBounds_toArray, List.set_cons_succ, List.set_cons_zero]
           have cB_0 : _ = some _ := blk_cell kB 0
           have cB_1 : _ = some _ := blk_cell kB 1
           have fB_0 := blk_free kB 0
           have fB_1 := blk_free kB 1
           have oB := blk_older kB
           go_wp2_with fail
           refine box_end1 gB hK ?_ ?_
           · exact (by repeat (first | with_reducible exact Below.refl _ _ | with_reducible assumption | refine bgw ?_ (by first | (simp; done) | (simp; omega) | omega) _ | refine Below.setCell ?_ (by first | exact Nat.le_of_not_lt (by assumption) | (simp; done) | (simp; omega) | omega) _ | refine Below.alloc ?_ (by first | (simp; done) | (simp; omega) | omega) _ | refine Below.drew ?_))
           · exact (by repeat' (first | with_reducible assumption | with_reducible apply blk_gw | with_reducible apply blk_alloc | with_reducible apply blk_set | ((with_reducible apply blk_other); focus (first | omega | assumption))))
         intro bB p0 nB  kB
         have cB_0 : _ = some _ := blk_cell kB 0
         have cB_1 : _ = some _ := blk_cell kB 1
         have fB_0 := blk_free kB 0
         have fB_1 := blk_free kB 1
         have oB := blk_older kB)
      | (refine wp_region_gw (by kernel_rfl) (by decide +kernel) ?_
         repeat (go_big_quiet_step ((first | (go_at_call 9; exact gw_call (tapp_b _ _ _ _ _ _)) | (go_at_call 44; exact gw_call (vscale_b _ _ _ _)) | (go_at_call 23; exact gw_call (vadd_b _ _ _ _ _)) | (go_at_call 39; exact gw_call (prod_b _ _ _)) | (go_at_call 35; exact gw_call (tang_b _ _ (by assumption) _)) | (go_at_call 26; exact gw_call (rot_b _ _)) | (go_at_call 25; exact gw_call (vrot_b _ _ _ _ _)) | (go_at_call 24; exact gw_call (vsub_b _ _ _ _ _)))))
         refine wpQuiet_nil ?_
         intro w1 hw1
         obtain ⟨q, rfl⟩ := hw1)
      | (refine wp_region_gw_tail 8 (by kernel_rfl) (by decide +kernel) ?_
         simp only [List.take_succ_cons, List.take_zero, List.drop_succ_cons, List.drop_zero]
         repeat (go_big_quiet_step ((first | (go_at_call 9; exact gw_call (tapp_b _ _ _ _ _ _)) | (go_at_call 44; exact gw_call (vscale_b _ _ _ _)) | (go_at_call 23; exact gw_call (vadd_b _ _ _ _ _)) | (go_at_call 39; exact gw_call (prod_b _ _ _)) | (go_at_call 35; exact gw_call (tang_b _ _ (by assumption) _)) | (go_at_call 26; exact gw_call (rot_b _ _)) | (go_at_call 25; exact gw_call (vrot_b _ _ _ _ _)) | (go_at_call 24; exact gw_call (vsub_b _ _ _ _ _)))))
         refine wpQuiet_nil ?_
         intro w1 hw1
         obtain ⟨q, rfl⟩ := hw1)
    go_wp2_with (first | (go_at_call 9; refine Calls.mono (gw_at (tapp_b _ _ _ _ _ _)) ?_; rintro e w1 ⟨rfl, q, rfl⟩) | (go_at_call 44; refine Calls.mono (gw_at (vscale_b _ _ _ _)) ?_; rintro e w1 ⟨rfl, q, rfl⟩) | (go_at_call 23; refine Calls.mono (gw_at (vadd_b _ _ _ _ _)) ?_; rintro e w1 ⟨rfl, q, rfl⟩) | (go_at_call 39; refine Calls.mono (gw_at (prod_b _ _ _)) ?_; rintro e w1 ⟨rfl, q, rfl⟩) | (go_at_call 35; refine Calls.mono (gw_at (tang_b _ _ (by assumption) _)) ?_; rintro e w1 ⟨rfl, q, rfl⟩) | (go_at_call 26; refine Calls.mono (gw_at (rot_b _ _)) ?_; rintro e w1 ⟨rfl, q, rfl⟩) | (go_at_call 25; refine Calls.mono (gw_at (vrot_b _ _ _ _ _)) ?_; rintro e w1 ⟨rfl, q, rfl⟩) | (go_at_call 24; refine Calls.mono (gw_at (vsub_b _ _ _ _ _)) ?_; rintro e w1 ⟨rfl, q, rfl⟩))
  exact bodyPost_ret (v := .agg #[.int .i64 (tgx px a cx cy vx k dt), .int .i64 (tgy py a cx cy vy k dt), .int .i64 (tang a (mul k dt))]) (by simp [results, Try.results20, go_sem]; try (first | with_reducible rfl | exact ⟨rfl, rfl⟩ | exact ⟨rfl, rfl, rfl⟩ | exact ⟨rfl, rfl, rfl, rfl⟩ | exact ⟨rfl, rfl, rfl, rfl, rfl⟩ | exact ⟨rfl, rfl, rfl, rfl, rfl, rfl⟩ | rfl)) rfl ⟨rfl, (by repeat (first | with_reducible exact Below.refl _ _ | with_reducible assumption | refine bgw ?_ (by first | (simp; done) | (simp; omega) | omega) _ | refine Below.setCell ?_ (by first | exact Nat.le_of_not_lt (by assumption) | (simp; done) | (simp; omega) | omega) _ | refine Below.alloc ?_ (by first | (simp; done) | (simp; omega) | omega) _ | refine Below.drew ?_))⟩

theorem rtgr_b (px py a cx cy vx vy k dt : Int) (w : World) : Calls Try.prog 21 #[.agg #[.int .i64 px, .int .i64 py, .int .i64 a], .agg #[.int .i64 cx, .int .i64 cy], .agg #[.int .i64 vx, .int .i64 vy], .int .i64 k, .int .i64 dt] w fun e w' => e = .returned (.agg #[.int .i64 (tgx px a cx cy vx k dt), .int .i64 (tgy py a cx cy vy k dt), .int .i64 (tang a (mul k dt))]) ∧ Below w.heap.size w w' := by
  have h1 := nrm_ge a; have h2 := nrm_lt a
  have hb := mul_sat k dt
  have hb1 := hb.1; have hb2 := hb.2
  go_enter Try.func21, Try.ntmps21
  go_wp2_with (first | (go_at_call 10; refine Calls.mono (gw_at (rtapp_b _ _ _ _ _ _)) ?_; rintro e w1 ⟨rfl, q, rfl⟩) | (go_at_call 45; refine Calls.mono (gw_at (rvscale_b _ _ _ _)) ?_; rintro e w1 ⟨rfl, q, rfl⟩) | (go_at_call 27; refine Calls.mono (gw_at (rvadd_b _ _ _ _ _)) ?_; rintro e w1 ⟨rfl, q, rfl⟩) | (go_at_call 37; refine Calls.mono (gw_at (rnrm_b _ _)) ?_; rintro e w1 ⟨rfl, q, rfl⟩) | (go_at_call 41; refine Calls.mono (gw_at (rmul_b _ _ _)) ?_; rintro e w1 ⟨rfl, q, rfl⟩) | (go_at_call 29; refine Calls.mono (gw_at (rrot_b _ _)) ?_; rintro e w1 ⟨rfl, q, rfl⟩) | (go_at_call 28; refine Calls.mono (gw_at (rvrot_b _ _ _ _ _)) ?_; rintro e w1 ⟨rfl, q, rfl⟩) | (go_at_call 32; refine Calls.mono (gw_at (rvsub_b _ _ _ _ _)) ?_; rintro e w1 ⟨rfl, q, rfl⟩))
  repeat
    first
      | (apply wp_box1 8 36 7 11 #[.int .i64 0, .int .i64 0] 23 (by kernel_rfl) (by rfl) (by decide +kernel) (by intro o ho a w; simp at ho; subst ho; simp [go_sem, ptr])
         · intro p0
           simp only [heads, ghost, List.take_succ_cons, List.take_zero, List.map_cons, List.map_nil]
           repeat (go_big_quiet_step ((first | (go_at_call 10; exact gw_call (rtapp_b _ _ _ _ _ _)) | (go_at_call 45; exact gw_call (rvscale_b _ _ _ _)) | (go_at_call 27; exact gw_call (rvadd_b _ _ _ _ _)) | (go_at_call 37; exact gw_call (rnrm_b _ _)) | (go_at_call 41; exact gw_call (rmul_b _ _ _)) | (go_at_call 29; exact gw_call (rrot_b _ _)) | (go_at_call 28; exact gw_call (rvrot_b _ _ _ _ _)) | (go_at_call 32; exact gw_call (rvsub_b _ _ _ _ _)))))
           exact wpQuiet_nil rfl
         · intro R bB p0 nB gB  kB hK
           simp only [List.drop_succ_cons, List.drop_zero, Act.put, ptr, List.setIfInBounds_toArray, List.set_cons_succ, List.set_cons_zero]
           have cB_0 : _ = some _ := blk_cell kB 0
           have cB_1 : _ = some _ := blk_cell kB 1
           have fB_0 := blk_free kB 0
           have fB_1 := blk_free kB 1
           have oB := blk_older kB
           go_wp2_with fail
           refine box_end1 gB hK ?_ ?_
           · exact (by repeat (first | with_reducible exact Below.refl _ _ | with_reducible assumption | refine bgw ?_ (by first | (simp; done) | (simp; omega) | omega) _ | refine Below.setCell ?_ (by first | exact Nat.le_of_not_lt (by assumption) | (simp; done) | (simp; omega) | omega) _ | refine Below.alloc ?_ (by first | (simp; done) | (simp; omega) | omega) _ | refine Below.drew ?_))
           · exact (by repeat' (first | with_reducible assumption | with_reducible apply blk_gw | with_reducible apply blk_alloc | with_reducible apply blk_set | ((with_reducible apply blk_other); focus (first | omega | assumption))))
         intro bB p0 nB  kB
         have cB_0 : _ = some _ := blk_cell kB 0
         have cB_1 : _ = some _ := blk_cell kB 1
         have fB_0 := blk_free kB 0
         have fB_1 := blk_free kB 1
         have oB := blk_older kB)
      | (refine wp_region_gw_tail 8 (by kernel_rfl) (by decide +kernel) ?_
         simp only [List.take_succ_cons, List.take_zero, List.drop_succ_cons, List.drop_zero]
         repeat (go_big_quiet_step ((first | (go_at_call 10; exact gw_call (rtapp_b _ _ _ _ _ _)) | (go_at_call 45; exact gw_call (rvscale_b _ _ _ _)) | (go_at_call 27; exact gw_call (rvadd_b _ _ _ _ _)) | (go_at_call 37; exact gw_call (rnrm_b _ _)) | (go_at_call 41; exact gw_call (rmul_b _ _ _)) | (go_at_call 29; exact gw_call (rrot_b _ _)) | (go_at_call 28; exact gw_call (rvrot_b _ _ _ _ _)) | (go_at_call 32; exact gw_call (rvsub_b _ _ _ _ _)))))
         refine wpQuiet_nil ?_
         intro w1 hw1
         obtain ⟨q, rfl⟩ := hw1)
    go_wp2_with (first | (go_at_call 10; refine Calls.mono (gw_at (rtapp_b _ _ _ _ _ _)) ?_; rintro e w1 ⟨rfl, q, rfl⟩) | (go_at_call 45; refine Calls.mono (gw_at (rvscale_b _ _ _ _)) ?_; rintro e w1 ⟨rfl, q, rfl⟩) | (go_at_call 27; refine Calls.mono (gw_at (rvadd_b _ _ _ _ _)) ?_; rintro e w1 ⟨rfl, q, rfl⟩) | (go_at_call 37; refine Calls.mono (gw_at (rnrm_b _ _)) ?_; rintro e w1 ⟨rfl, q, rfl⟩) | (go_at_call 41; refine Calls.mono (gw_at (rmul_b _ _ _)) ?_; rintro e w1 ⟨rfl, q, rfl⟩) | (go_at_call 29; refine Calls.mono (gw_at (rrot_b _ _)) ?_; rintro e w1 ⟨rfl, q, rfl⟩) | (go_at_call 28; refine Calls.mono (gw_at (rvrot_b _ _ _ _ _)) ?_; rintro e w1 ⟨rfl, q, rfl⟩) | (go_at_call 32; refine Calls.mono (gw_at (rvsub_b _ _ _ _ _)) ?_; rintro e w1 ⟨rfl, q, rfl⟩))
  exact bodyPost_ret (v := .agg #[.int .i64 (tgx px a cx cy vx k dt), .int .i64 (tgy py a cx cy vy k dt), .int .i64 (tang a (mul k dt))]) (by simp [results, Try.results21, go_sem]; try (first | with_reducible rfl | exact ⟨rfl, rfl⟩ | exact ⟨rfl, rfl, rfl⟩ | exact ⟨rfl, rfl, rfl, rfl⟩ | exact ⟨rfl, rfl, rfl, rfl, rfl⟩ | exact ⟨rfl, rfl, rfl, rfl, rfl, rfl⟩ | rfl)) rfl ⟨rfl, (by repeat (first | with_reducible exact Below.refl _ _ | with_reducible assumption | refine bgw ?_ (by first | (simp; done) | (simp; omega) | omega) _ | refine Below.setCell ?_ (by first | exact Nat.le_of_not_lt (by assumption) | (simp; done) | (simp; omega) | omega) _ | refine Below.alloc ?_ (by first | (simp; done) | (simp; omega) | omega) _ | refine Below.drew ?_))⟩

end Go.Proofs.Ytfjjhcplbbjehaa
