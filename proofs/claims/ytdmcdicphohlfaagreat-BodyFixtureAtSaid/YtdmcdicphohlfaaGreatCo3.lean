/- Contracts of package angle and of its reference: each function returns the number (or the rotation) that the Lean function of the same meaning gives, and nothing that existed has changed. No conditions.
The contracts of chapter 2 that later chapters call, of the program and of the reference, in the form that they use: nothing below the heap's old size has turned. No conditions.
Contracts of package transform and of its reference: each returns what the Lean functions of the same meaning give, component by component, and nothing that existed has changed. No conditions. -/
import Derived.Test.YtdmcdicphohlfaaGreatCo1
import Derived.Test.YtdmcdicphohlfaaGreatMa3
import Derived.Test.YtdmcdicphohlfaaGreatCo2

set_option linter.unusedVariables false
namespace Go.Proofs.YtdmcdicphohlfaaGreat
open Go.RowKit Fx

theorem nrm_p (a : Int) (w : World) : Calls Tryz.prog 243 #[.int .i64 a] w fun e w' => e = .returned (.int .i64 (nrm a)) ∧ w = w' := by
  have h1 := tmod_ge a; have h2 := tmod_le a
  by_cases h : 205888 ≤ a.tmod 411776
  · go_enter Tryz.func243, Tryz.ntmps243
    go_wp2
    go_ret
    exact ⟨ret_int (nrm_hi h).symm, rfl⟩
  · by_cases h3 : a.tmod 411776 < -205888
    · go_enter Tryz.func243, Tryz.ntmps243
      go_wp2
      go_ret
      exact ⟨ret_int (nrm_lo h3).symm, rfl⟩
    · go_enter Tryz.func243, Tryz.ntmps243
      go_wp2
      go_ret
      exact ⟨ret_int (nrm_in (by omega) (by omega)).symm, rfl⟩

theorem rnrm_p (a : Int) (w : World) : Calls Tryz.prog 246 #[.int .i64 a] w fun e w' => e = .returned (.int .i64 (nrm a)) ∧ w = w' := by
  have h1 := tmod_ge a; have h2 := tmod_le a
  by_cases h : 205888 ≤ a.tmod 411776
  · go_enter Tryz.func246, Tryz.ntmps246
    go_wp2
    go_ret
    exact ⟨ret_int (nrm_hi h).symm, rfl⟩
  · by_cases h3 : a.tmod 411776 < -205888
    · go_enter Tryz.func246, Tryz.ntmps246
      go_wp2
      go_ret
      exact ⟨ret_int (nrm_lo h3).symm, rfl⟩
    · go_enter Tryz.func246, Tryz.ntmps246
      go_wp2
      go_ret
      exact ⟨ret_int (nrm_in (by omega) (by omega)).symm, rfl⟩

theorem rabs_p (x : Int) (w : World) (h1 : -4611686018427387904 ≤ x) : Calls Tryz.prog 245 #[.int .i64 x] w fun e w' => e = .returned (.int .i64 (iabs x)) ∧ w = w' := by
  by_cases h : x < 0
  · go_enter Tryz.func245, Tryz.ntmps245
    go_wp2
    go_ret
    exact ⟨ret_int (iabs_neg h).symm, rfl⟩
  · go_enter Tryz.func245, Tryz.ntmps245
    go_wp2
    go_ret
    exact ⟨ret_int (iabs_pos (by omega)).symm, rfl⟩

theorem hts_p (m : Int) (w : World) (h1 : 0 ≤ m) (h2 : m ≤ 205888) : Calls Tryz.prog 244 #[.int .i64 m] w fun e w' => e = .returned (.int .i64 (poly (fold m))) ∧ Dr w w' := by
  go_enter Tryz.func244, Tryz.ntmps244
  go_wp2_with (first
    | (go_at_call 148; refine (div_p _ _ _).mono ?_; rintro e w1 ⟨rfl, hw1⟩)
    | (go_at_call 151; refine (mul_p _ _ _).mono ?_; rintro e w2 ⟨rfl, hw2⟩)
    | (go_at_call 163; refine (sub_p _ _ _).mono ?_; rintro e w' ⟨rfl, rfl⟩))
  go_ret
  exact ⟨rfl, by repeat (first | exact Dr.refl _ | assumption | refine Dr.trans ?_ (by assumption))⟩

theorem rfq_p (x : Int) (w : World) : Calls Tryz.prog 247 #[.int .i64 x] w fun e w' => e = .returned (.int .i64 (poly x)) ∧ Dr w w' := by
  go_enter Tryz.func247, Tryz.ntmps247
  go_wp2_with (first
    | (go_at_call 149; refine (rdiv_p _ _ _).mono ?_; rintro e w1 ⟨rfl, hw1⟩)
    | (go_at_call 86; refine (rmul_p _ _ _).mono ?_; rintro e w2 ⟨rfl, hw2⟩)
    | (go_at_call 137; refine (rsub_p _ _ _).mono ?_; rintro e w' ⟨rfl, rfl⟩))
  go_ret
  exact ⟨rfl, by repeat (first | exact Dr.refl _ | assumption | refine Dr.trans ?_ (by assumption))⟩

theorem sin_p (a : Int) (w : World) : Calls Tryz.prog 202 #[.int .i64 a] w fun e w' => e = .returned (.int .i64 (sn a)) ∧ Dr w w' := by
  have h1 := nrm_ge a; have h2 := nrm_lt a
  by_cases h : nrm a < 0
  · have p1 := poly_ge (fold (-nrm a)); have p2 := poly_le (fold (-nrm a))
    rw [sn_neg h, iabs_neg h]
    go_enter Tryz.func202, Tryz.ntmps202
    go_wp2_with (first
      | (go_at_call 243; refine (nrm_p _ _).mono ?_; rintro e w' ⟨rfl, rfl⟩)
      | (go_at_call 244; refine (hts_p _ _ (by omega) (by omega)).mono ?_; rintro e w1 ⟨rfl, hw1⟩))
    go_ret
    exact ⟨rfl, by assumption⟩
  · rw [sn_pos h, iabs_pos (by omega)]
    go_enter Tryz.func202, Tryz.ntmps202
    go_wp2_with (first
      | (go_at_call 243; refine (nrm_p _ _).mono ?_; rintro e w' ⟨rfl, rfl⟩)
      | (go_at_call 244; refine (hts_p _ _ (by omega) (by omega)).mono ?_; rintro e w1 ⟨rfl, hw1⟩))
    go_ret
    exact ⟨rfl, by assumption⟩

theorem rsin_p (a : Int) (w : World) : Calls Tryz.prog 204 #[.int .i64 a] w fun e w' => e = .returned (.int .i64 (sn a)) ∧ Dr w w' := by
  have h1 := nrm_ge a; have h2 := nrm_lt a
  have i1 := iabs_ge (nrm a); have i2 := iabs_nrm_le a
  have p1 := poly_ge (fold (iabs (nrm a))); have p2 := poly_le (fold (iabs (nrm a)))
  by_cases h : nrm a < 0
  · rw [sn_neg h]
    by_cases k : 102944 < iabs (nrm a)
    · rw [fold_gt k] at *
      go_enter Tryz.func204, Tryz.ntmps204
      go_wp2_with (first
        | (go_at_call 246; refine (rnrm_p _ _).mono ?_; rintro e w' ⟨rfl, rfl⟩)
        | (go_at_call 245; refine (rabs_p _ _ (by omega)).mono ?_; rintro e w' ⟨rfl, rfl⟩)
        | (go_at_call 247; refine (rfq_p _ _).mono ?_; rintro e w1 ⟨rfl, hw1⟩))
      go_ret
      exact ⟨rfl, by assumption⟩
    · rw [fold_le (by omega)] at *
      go_enter Tryz.func204, Tryz.ntmps204
      go_wp2_with (first
        | (go_at_call 246; refine (rnrm_p _ _).mono ?_; rintro e w' ⟨rfl, rfl⟩)
        | (go_at_call 245; refine (rabs_p _ _ (by omega)).mono ?_; rintro e w' ⟨rfl, rfl⟩)
        | (go_at_call 247; refine (rfq_p _ _).mono ?_; rintro e w1 ⟨rfl, hw1⟩))
      go_ret
      exact ⟨rfl, by assumption⟩
  · rw [sn_pos h]
    by_cases k : 102944 < iabs (nrm a)
    · rw [fold_gt k] at *
      go_enter Tryz.func204, Tryz.ntmps204
      go_wp2_with (first
        | (go_at_call 246; refine (rnrm_p _ _).mono ?_; rintro e w' ⟨rfl, rfl⟩)
        | (go_at_call 245; refine (rabs_p _ _ (by omega)).mono ?_; rintro e w' ⟨rfl, rfl⟩)
        | (go_at_call 247; refine (rfq_p _ _).mono ?_; rintro e w1 ⟨rfl, hw1⟩))
      go_ret
      exact ⟨rfl, by assumption⟩
    · rw [fold_le (by omega)] at *
      go_enter Tryz.func204, Tryz.ntmps204
      go_wp2_with (first
        | (go_at_call 246; refine (rnrm_p _ _).mono ?_; rintro e w' ⟨rfl, rfl⟩)
        | (go_at_call 245; refine (rabs_p _ _ (by omega)).mono ?_; rintro e w' ⟨rfl, rfl⟩)
        | (go_at_call 247; refine (rfq_p _ _).mono ?_; rintro e w1 ⟨rfl, hw1⟩))
      go_ret
      exact ⟨rfl, by assumption⟩

theorem cos_p (a : Int) (w : World) : Calls Tryz.prog 201 #[.int .i64 a] w fun e w' => e = .returned (.int .i64 (cs a)) ∧ Dr w w' := by
  have h1 := nrm_ge a; have h2 := nrm_lt a
  have hm : iabs (nrm a) = max (nrm a) (-nrm a) := by unfold iabs; split <;> omega
  have e : cs a = sn (102944 - max (nrm a) (-nrm a)) := by unfold cs; rw [hm]
  rw [e]
  clear e hm
  go_enter Tryz.func201, Tryz.ntmps201
  go_wp2_with (first
    | (go_at_call 243; refine (nrm_p _ _).mono ?_; rintro e w' ⟨rfl, rfl⟩)
    | (go_at_call 202; refine (sin_p _ _).mono ?_; rintro e w1 ⟨rfl, hw1⟩))
  go_ret
  exact ⟨rfl, by assumption⟩

theorem rcos_p (a : Int) (w : World) : Calls Tryz.prog 203 #[.int .i64 a] w fun e w' => e = .returned (.int .i64 (cs a)) ∧ Dr w w' := by
  have h1 := nrm_ge a; have h2 := nrm_lt a
  have i1 := iabs_ge (nrm a); have i2 := iabs_nrm_le a
  go_enter Tryz.func203, Tryz.ntmps203
  go_wp2_with (first
    | (go_at_call 246; refine (rnrm_p _ _).mono ?_; rintro e w' ⟨rfl, rfl⟩)
    | (go_at_call 245; refine (rabs_p _ _ (by omega)).mono ?_; rintro e w' ⟨rfl, rfl⟩)
    | (go_at_call 204; refine (rsin_p _ _).mono ?_; rintro e w1 ⟨rfl, hw1⟩))
  go_ret
  exact ⟨rfl, by assumption⟩

end Go.Proofs.YtdmcdicphohlfaaGreat

set_option linter.unusedVariables false
namespace Go.Proofs.YtdmcdicphohlfaaGreat
open Go.RowKit Fx

theorem sin_b (a : Int) (w : World) : Calls Tryz.prog 202 #[.int .i64 a] w fun e w' => e = .returned (.int .i64 (sn a)) ∧ Below w.heap.size w w' := bl_of_dr (sin_p a w)

theorem rsin_b (a : Int) (w : World) : Calls Tryz.prog 204 #[.int .i64 a] w fun e w' => e = .returned (.int .i64 (sn a)) ∧ Below w.heap.size w w' := bl_of_dr (rsin_p a w)

theorem cos_b (a : Int) (w : World) : Calls Tryz.prog 201 #[.int .i64 a] w fun e w' => e = .returned (.int .i64 (cs a)) ∧ Below w.heap.size w w' := bl_of_dr (cos_p a w)

theorem rcos_b (a : Int) (w : World) : Calls Tryz.prog 203 #[.int .i64 a] w fun e w' => e = .returned (.int .i64 (cs a)) ∧ Below w.heap.size w w' := bl_of_dr (rcos_p a w)

theorem rot_b (a : Int) (w : World) : Calls Tryz.prog 145 #[.int .i64 a] w fun e w' => e = .returned (.agg #[.int .i64 (rotc a), .int .i64 (rots a)]) ∧ Below w.heap.size w w' := by
  have h1 := cs_ge a; have h2 := cs_le a; have h3 := sn_ge a; have h4 := sn_le a
  have c1 := mul_between h1 h2 h1 h2
  have s1 := mul_between h3 h4 h3 h4
  go_enter Tryz.func145, Tryz.ntmps145
  go_wp2_with (first | (go_at_call 201; refine Calls.mono (gw_at (cos_b _ _)) ?_; rintro e w1 ⟨rfl, q, rfl⟩) | (go_at_call 202; refine Calls.mono (gw_at (sin_b _ _)) ?_; rintro e w1 ⟨rfl, q, rfl⟩) | (go_at_call 162; refine Calls.mono (gw_at (isq_b _ _)) ?_; rintro e w1 ⟨rfl, q, rfl⟩) | (go_at_call 148; refine Calls.mono (gw_at (div_b _ _ _)) ?_; rintro e w1 ⟨rfl, q, rfl⟩))
  exact bodyPost_ret (v := .agg #[.int .i64 (rotc a), .int .i64 (rots a)]) (by simp [results, Tryz.results145, go_sem]; try (first | with_reducible rfl | exact ⟨rfl, rfl⟩ | exact ⟨rfl, rfl, rfl⟩ | exact ⟨rfl, rfl, rfl, rfl⟩ | exact ⟨rfl, rfl, rfl, rfl, rfl⟩ | exact ⟨rfl, rfl, rfl, rfl, rfl, rfl⟩ | rfl)) rfl ⟨rfl, bBel⟩

theorem rrot_b (a : Int) (w : World) : Calls Tryz.prog 147 #[.int .i64 a] w fun e w' => e = .returned (.agg #[.int .i64 (rotc a), .int .i64 (rots a)]) ∧ Below w.heap.size w w' := by
  have h1 := cs_ge a; have h2 := cs_le a; have h3 := sn_ge a; have h4 := sn_le a
  have c1 := mul_between h1 h2 h1 h2
  have s1 := mul_between h3 h4 h3 h4
  go_enter Tryz.func147, Tryz.ntmps147
  go_wp2_with (first | (go_at_call 203; refine Calls.mono (gw_at (rcos_b _ _)) ?_; rintro e w1 ⟨rfl, q, rfl⟩) | (go_at_call 204; refine Calls.mono (gw_at (rsin_b _ _)) ?_; rintro e w1 ⟨rfl, q, rfl⟩) | (go_at_call 185; refine Calls.mono (gw_at (risq_b _ _)) ?_; rintro e w1 ⟨rfl, q, rfl⟩) | (go_at_call 149; refine Calls.mono (gw_at (rdiv_b _ _ _)) ?_; rintro e w1 ⟨rfl, q, rfl⟩))
  exact bodyPost_ret (v := .agg #[.int .i64 (rotc a), .int .i64 (rots a)]) (by simp [results, Tryz.results147, go_sem]; try (first | with_reducible rfl | exact ⟨rfl, rfl⟩ | exact ⟨rfl, rfl, rfl⟩ | exact ⟨rfl, rfl, rfl, rfl⟩ | exact ⟨rfl, rfl, rfl, rfl, rfl⟩ | exact ⟨rfl, rfl, rfl, rfl, rfl, rfl⟩ | rfl)) rfl ⟨rfl, bBel⟩

end Go.Proofs.YtdmcdicphohlfaaGreat

set_option linter.unusedVariables false
namespace Go.Proofs.YtdmcdicphohlfaaGreat
open Go.RowKit Fx

theorem inw_b (x : Int) (w : World) : Calls Tryz.prog 179 #[.int .i64 x] w fun e w' => e = .returned (.bool (inw x)) ∧ Below w.heap.size w w' := by
  go_enter Tryz.func179, Tryz.ntmps179
  go_wp2_with fail
  all_goals (go_ret; refine ⟨?_, bBel⟩; first | rfl | (simp [inw]; done) | (simp [inw]; omega) | (simp [inw]; rw [Bool.eq_iff_iff]; first | (simp; done) | (simp; omega)))

theorem routw_b (x : Int) (w : World) : Calls Tryz.prog 180 #[.int .i64 x] w fun e w' => e = .returned (.bool (!inw x)) ∧ Below w.heap.size w w' := by
  go_enter Tryz.func180, Tryz.ntmps180
  go_wp2_with fail
  all_goals (go_ret; refine ⟨?_, bBel⟩; first | rfl | (simp [inw]; done) | (simp [inw]; omega) | (simp [inw]; rw [Bool.eq_iff_iff]; first | (simp; done) | (simp; omega)))

theorem tval_b (px py a : Int) (w : World) : Calls Tryz.prog 118 #[.agg #[.int .i64 px, .int .i64 py, .int .i64 a]] w fun e w' => e = .returned (.bool (tval px py a)) ∧ Below w.heap.size w w' := by
  unfold tval
  cases h1 : inw px
  focus
    go_enter Tryz.func118, Tryz.ntmps118
    go_wp2_with (first | (go_at_call 179; (first | (refine Calls.mono (gw_at (boolIs (inw_b _ _) (b := true) (by assumption))) ?_; rintro e w1 ⟨rfl, q, rfl⟩) | (refine Calls.mono (gw_at (boolIs (inw_b _ _) (b := false) (by assumption))) ?_; rintro e w1 ⟨rfl, q, rfl⟩) | (refine Calls.mono (gw_at (inw_b _ _)) ?_; rintro e w1 ⟨rfl, q, rfl⟩))))
    all_goals (go_ret; refine ⟨?_, bBel⟩; first | rfl | (simp; done) | (simp; omega) | (simp; rw [Bool.eq_iff_iff]; first | (simp; done) | (simp; omega)))
  cases h2 : inw py
  focus
    go_enter Tryz.func118, Tryz.ntmps118
    go_wp2_with (first | (go_at_call 179; (first | (refine Calls.mono (gw_at (boolIs (inw_b _ _) (b := true) (by assumption))) ?_; rintro e w1 ⟨rfl, q, rfl⟩) | (refine Calls.mono (gw_at (boolIs (inw_b _ _) (b := false) (by assumption))) ?_; rintro e w1 ⟨rfl, q, rfl⟩) | (refine Calls.mono (gw_at (inw_b _ _)) ?_; rintro e w1 ⟨rfl, q, rfl⟩))))
    all_goals (go_ret; refine ⟨?_, bBel⟩; first | rfl | (simp; done) | (simp; omega) | (simp; rw [Bool.eq_iff_iff]; first | (simp; done) | (simp; omega)))
  go_enter Tryz.func118, Tryz.ntmps118
  go_wp2_with (first | (go_at_call 179; (first | (refine Calls.mono (gw_at (boolIs (inw_b _ _) (b := true) (by assumption))) ?_; rintro e w1 ⟨rfl, q, rfl⟩) | (refine Calls.mono (gw_at (boolIs (inw_b _ _) (b := false) (by assumption))) ?_; rintro e w1 ⟨rfl, q, rfl⟩) | (refine Calls.mono (gw_at (inw_b _ _)) ?_; rintro e w1 ⟨rfl, q, rfl⟩))))
  all_goals (go_ret; refine ⟨?_, bBel⟩; first | rfl | (simp; done) | (simp; omega) | (simp; rw [Bool.eq_iff_iff]; first | (simp; done) | (simp; omega)))

theorem rtval_b (px py a : Int) (w : World) : Calls Tryz.prog 123 #[.agg #[.int .i64 px, .int .i64 py, .int .i64 a]] w fun e w' => e = .returned (.bool (tval px py a)) ∧ Below w.heap.size w w' := by
  unfold tval
  cases h1 : inw px
  focus
    go_enter Tryz.func123, Tryz.ntmps123
    go_wp2_with (first | (go_at_call 180; refine Calls.mono (gw_at (routw_b _ _)) ?_; rintro e w1 ⟨rfl, q, rfl⟩))
    all_goals (go_ret; refine ⟨?_, bBel⟩; first | rfl | (simp; done) | (simp; omega) | (simp; rw [Bool.eq_iff_iff]; first | (simp; done) | (simp; omega)))
  cases h2 : inw py
  focus
    go_enter Tryz.func123, Tryz.ntmps123
    go_wp2_with (first | (go_at_call 180; refine Calls.mono (gw_at (routw_b _ _)) ?_; rintro e w1 ⟨rfl, q, rfl⟩))
    all_goals (go_ret; refine ⟨?_, bBel⟩; first | rfl | (simp; done) | (simp; omega) | (simp; rw [Bool.eq_iff_iff]; first | (simp; done) | (simp; omega)))
  go_enter Tryz.func123, Tryz.ntmps123
  go_wp2_with (first | (go_at_call 180; refine Calls.mono (gw_at (routw_b _ _)) ?_; rintro e w1 ⟨rfl, q, rfl⟩))
  all_goals (go_ret; refine ⟨?_, bBel⟩; first | rfl | (simp; done) | (simp; omega) | (simp; rw [Bool.eq_iff_iff]; first | (simp; done) | (simp; omega)))

theorem tapp_b (px py a vx vy : Int) (w : World) : Calls Tryz.prog 70 #[.agg #[.int .i64 px, .int .i64 py, .int .i64 a], .agg #[.int .i64 vx, .int .i64 vy]] w fun e w' => e = .returned (.agg #[.int .i64 (tpx px a vx vy), .int .i64 (tpy py a vx vy)]) ∧ Below w.heap.size w w' := by
  go_enter Tryz.func70, Tryz.ntmps70
  go_wp2_with (first | (go_at_call 145; refine Calls.mono (gw_at (rot_b _ _)) ?_; rintro e w1 ⟨rfl, q, rfl⟩) | (go_at_call 144; refine Calls.mono (gw_at (vrot_b _ _ _ _ _)) ?_; rintro e w1 ⟨rfl, q, rfl⟩) | (go_at_call 74; refine Calls.mono (gw_at (vadd_b _ _ _ _ _)) ?_; rintro e w1 ⟨rfl, q, rfl⟩))
  repeat
    refine wp_region_gw_tail 8 (by kernel_rfl) (by kernel_rfl) ?_
    simp only [List.take_succ_cons, List.take_zero, List.drop_succ_cons, List.drop_zero]
    repeat (go_big_quiet_step ((first | (go_at_call 145; exact gw_call (rot_b _ _)) | (go_at_call 144; exact gw_call (vrot_b _ _ _ _ _)) | (go_at_call 74; exact gw_call (vadd_b _ _ _ _ _)))))
    refine wpQuiet_nil ?_
    intro w1 hw1
    obtain ⟨q, rfl⟩ := hw1
    go_wp2_with (first | (go_at_call 145; refine Calls.mono (gw_at (rot_b _ _)) ?_; rintro e w1 ⟨rfl, q, rfl⟩) | (go_at_call 144; refine Calls.mono (gw_at (vrot_b _ _ _ _ _)) ?_; rintro e w1 ⟨rfl, q, rfl⟩) | (go_at_call 74; refine Calls.mono (gw_at (vadd_b _ _ _ _ _)) ?_; rintro e w1 ⟨rfl, q, rfl⟩))
  exact bodyPost_ret (v := .agg #[.int .i64 (tpx px a vx vy), .int .i64 (tpy py a vx vy)]) (by simp [results, Tryz.results70, go_sem]; try (first | with_reducible rfl | exact ⟨rfl, rfl⟩ | exact ⟨rfl, rfl, rfl⟩ | exact ⟨rfl, rfl, rfl, rfl⟩ | exact ⟨rfl, rfl, rfl, rfl, rfl⟩ | exact ⟨rfl, rfl, rfl, rfl, rfl, rfl⟩ | rfl)) rfl ⟨rfl, bBel⟩

theorem rtapp_b (px py a vx vy : Int) (w : World) : Calls Tryz.prog 71 #[.agg #[.int .i64 px, .int .i64 py, .int .i64 a], .agg #[.int .i64 vx, .int .i64 vy]] w fun e w' => e = .returned (.agg #[.int .i64 (tpx px a vx vy), .int .i64 (tpy py a vx vy)]) ∧ Below w.heap.size w w' := by
  go_enter Tryz.func71, Tryz.ntmps71
  go_wp2_with (first | (go_at_call 147; refine Calls.mono (gw_at (rrot_b _ _)) ?_; rintro e w1 ⟨rfl, q, rfl⟩) | (go_at_call 146; refine Calls.mono (gw_at (rvrot_b _ _ _ _ _)) ?_; rintro e w1 ⟨rfl, q, rfl⟩) | (go_at_call 77; refine Calls.mono (gw_at (rvadd_b _ _ _ _ _)) ?_; rintro e w1 ⟨rfl, q, rfl⟩))
  repeat
    refine wp_region_gw_tail 8 (by kernel_rfl) (by kernel_rfl) ?_
    simp only [List.take_succ_cons, List.take_zero, List.drop_succ_cons, List.drop_zero]
    repeat (go_big_quiet_step ((first | (go_at_call 147; exact gw_call (rrot_b _ _)) | (go_at_call 146; exact gw_call (rvrot_b _ _ _ _ _)) | (go_at_call 77; exact gw_call (rvadd_b _ _ _ _ _)))))
    refine wpQuiet_nil ?_
    intro w1 hw1
    obtain ⟨q, rfl⟩ := hw1
    go_wp2_with (first | (go_at_call 147; refine Calls.mono (gw_at (rrot_b _ _)) ?_; rintro e w1 ⟨rfl, q, rfl⟩) | (go_at_call 146; refine Calls.mono (gw_at (rvrot_b _ _ _ _ _)) ?_; rintro e w1 ⟨rfl, q, rfl⟩) | (go_at_call 77; refine Calls.mono (gw_at (rvadd_b _ _ _ _ _)) ?_; rintro e w1 ⟨rfl, q, rfl⟩))
  exact bodyPost_ret (v := .agg #[.int .i64 (tpx px a vx vy), .int .i64 (tpy py a vx vy)]) (by simp [results, Tryz.results71, go_sem]; try (first | with_reducible rfl | exact ⟨rfl, rfl⟩ | exact ⟨rfl, rfl, rfl⟩ | exact ⟨rfl, rfl, rfl, rfl⟩ | exact ⟨rfl, rfl, rfl, rfl, rfl⟩ | exact ⟨rfl, rfl, rfl, rfl, rfl, rfl⟩ | rfl)) rfl ⟨rfl, bBel⟩

end Go.Proofs.YtdmcdicphohlfaaGreat
