/- Contracts of package angle and of its reference: each function returns the number (or the rotation) that the Lean function of the same meaning gives, and nothing that existed has changed. No conditions.
The contracts of chapter 2 that later chapters call, of the program and of the reference, in the form that they use: nothing below the heap's old size has turned. No conditions.
Contracts of package transform and of its reference: each returns what the Lean functions of the same meaning give, component by component, and nothing that existed has changed. No conditions. -/
import Derived.Test.YtaahgblkmajceaaGreatCo1
import Derived.Test.YtaahgblkmajceaaGreatMa3
import Derived.Test.YtaahgblkmajceaaGreatCo2

set_option linter.unusedVariables false
namespace Go.Proofs.YtaahgblkmajceaaGreat
open Go.RowKit Fx

theorem nrm_p (a : Int) (w : World) : Calls Tryz.prog 171 #[.int .i64 a] w fun e w' => e = .returned (.int .i64 (nrm a)) ∧ w = w' := by
  have h1 := tmod_ge a; have h2 := tmod_le a
  by_cases h : 205888 ≤ a.tmod 411776
  · go_enter Tryz.func171, Tryz.ntmps171
    go_wp2
    go_ret
    exact ⟨ret_int (nrm_hi h).symm, rfl⟩
  · by_cases h3 : a.tmod 411776 < -205888
    · go_enter Tryz.func171, Tryz.ntmps171
      go_wp2
      go_ret
      exact ⟨ret_int (nrm_lo h3).symm, rfl⟩
    · go_enter Tryz.func171, Tryz.ntmps171
      go_wp2
      go_ret
      exact ⟨ret_int (nrm_in (by omega) (by omega)).symm, rfl⟩

theorem rnrm_p (a : Int) (w : World) : Calls Tryz.prog 164 #[.int .i64 a] w fun e w' => e = .returned (.int .i64 (nrm a)) ∧ w = w' := by
  have h1 := tmod_ge a; have h2 := tmod_le a
  by_cases h : 205888 ≤ a.tmod 411776
  · go_enter Tryz.func164, Tryz.ntmps164
    go_wp2
    go_ret
    exact ⟨ret_int (nrm_hi h).symm, rfl⟩
  · by_cases h3 : a.tmod 411776 < -205888
    · go_enter Tryz.func164, Tryz.ntmps164
      go_wp2
      go_ret
      exact ⟨ret_int (nrm_lo h3).symm, rfl⟩
    · go_enter Tryz.func164, Tryz.ntmps164
      go_wp2
      go_ret
      exact ⟨ret_int (nrm_in (by omega) (by omega)).symm, rfl⟩

theorem rabs_p (x : Int) (w : World) (h1 : -4611686018427387904 ≤ x) : Calls Tryz.prog 163 #[.int .i64 x] w fun e w' => e = .returned (.int .i64 (iabs x)) ∧ w = w' := by
  by_cases h : x < 0
  · go_enter Tryz.func163, Tryz.ntmps163
    go_wp2
    go_ret
    exact ⟨ret_int (iabs_neg h).symm, rfl⟩
  · go_enter Tryz.func163, Tryz.ntmps163
    go_wp2
    go_ret
    exact ⟨ret_int (iabs_pos (by omega)).symm, rfl⟩

theorem hts_p (m : Int) (w : World) (h1 : 0 ≤ m) (h2 : m ≤ 205888) : Calls Tryz.prog 172 #[.int .i64 m] w fun e w' => e = .returned (.int .i64 (poly (fold m))) ∧ Dr w w' := by
  go_enter Tryz.func172, Tryz.ntmps172
  go_wp2_with (first
    | (go_at_call 159; refine (div_p _ _ _).mono ?_; rintro e w1 ⟨rfl, hw1⟩)
    | (go_at_call 178; refine (mul_p _ _ _).mono ?_; rintro e w2 ⟨rfl, hw2⟩)
    | (go_at_call 87; refine (sub_p _ _ _).mono ?_; rintro e w' ⟨rfl, rfl⟩))
  go_ret
  exact ⟨rfl, by repeat (first | exact Dr.refl _ | assumption | refine Dr.trans ?_ (by assumption))⟩

theorem rfq_p (x : Int) (w : World) : Calls Tryz.prog 165 #[.int .i64 x] w fun e w' => e = .returned (.int .i64 (poly x)) ∧ Dr w w' := by
  go_enter Tryz.func165, Tryz.ntmps165
  go_wp2_with (first
    | (go_at_call 147; refine (rdiv_p _ _ _).mono ?_; rintro e w1 ⟨rfl, hw1⟩)
    | (go_at_call 174; refine (rmul_p _ _ _).mono ?_; rintro e w2 ⟨rfl, hw2⟩)
    | (go_at_call 63; refine (rsub_p _ _ _).mono ?_; rintro e w' ⟨rfl, rfl⟩))
  go_ret
  exact ⟨rfl, by repeat (first | exact Dr.refl _ | assumption | refine Dr.trans ?_ (by assumption))⟩

theorem sin_p (a : Int) (w : World) : Calls Tryz.prog 157 #[.int .i64 a] w fun e w' => e = .returned (.int .i64 (sn a)) ∧ Dr w w' := by
  have h1 := nrm_ge a; have h2 := nrm_lt a
  by_cases h : nrm a < 0
  · have p1 := poly_ge (fold (-nrm a)); have p2 := poly_le (fold (-nrm a))
    rw [sn_neg h, iabs_neg h]
    go_enter Tryz.func157, Tryz.ntmps157
    go_wp2_with (first
      | (go_at_call 171; refine (nrm_p _ _).mono ?_; rintro e w' ⟨rfl, rfl⟩)
      | (go_at_call 172; refine (hts_p _ _ (by omega) (by omega)).mono ?_; rintro e w1 ⟨rfl, hw1⟩))
    go_ret
    exact ⟨rfl, by assumption⟩
  · rw [sn_pos h, iabs_pos (by omega)]
    go_enter Tryz.func157, Tryz.ntmps157
    go_wp2_with (first
      | (go_at_call 171; refine (nrm_p _ _).mono ?_; rintro e w' ⟨rfl, rfl⟩)
      | (go_at_call 172; refine (hts_p _ _ (by omega) (by omega)).mono ?_; rintro e w1 ⟨rfl, hw1⟩))
    go_ret
    exact ⟨rfl, by assumption⟩

theorem rsin_p (a : Int) (w : World) : Calls Tryz.prog 146 #[.int .i64 a] w fun e w' => e = .returned (.int .i64 (sn a)) ∧ Dr w w' := by
  have h1 := nrm_ge a; have h2 := nrm_lt a
  have i1 := iabs_ge (nrm a); have i2 := iabs_nrm_le a
  have p1 := poly_ge (fold (iabs (nrm a))); have p2 := poly_le (fold (iabs (nrm a)))
  by_cases h : nrm a < 0
  · rw [sn_neg h]
    by_cases k : 102944 < iabs (nrm a)
    · rw [fold_gt k] at *
      go_enter Tryz.func146, Tryz.ntmps146
      go_wp2_with (first
        | (go_at_call 164; refine (rnrm_p _ _).mono ?_; rintro e w' ⟨rfl, rfl⟩)
        | (go_at_call 163; refine (rabs_p _ _ (by omega)).mono ?_; rintro e w' ⟨rfl, rfl⟩)
        | (go_at_call 165; refine (rfq_p _ _).mono ?_; rintro e w1 ⟨rfl, hw1⟩))
      go_ret
      exact ⟨rfl, by assumption⟩
    · rw [fold_le (by omega)] at *
      go_enter Tryz.func146, Tryz.ntmps146
      go_wp2_with (first
        | (go_at_call 164; refine (rnrm_p _ _).mono ?_; rintro e w' ⟨rfl, rfl⟩)
        | (go_at_call 163; refine (rabs_p _ _ (by omega)).mono ?_; rintro e w' ⟨rfl, rfl⟩)
        | (go_at_call 165; refine (rfq_p _ _).mono ?_; rintro e w1 ⟨rfl, hw1⟩))
      go_ret
      exact ⟨rfl, by assumption⟩
  · rw [sn_pos h]
    by_cases k : 102944 < iabs (nrm a)
    · rw [fold_gt k] at *
      go_enter Tryz.func146, Tryz.ntmps146
      go_wp2_with (first
        | (go_at_call 164; refine (rnrm_p _ _).mono ?_; rintro e w' ⟨rfl, rfl⟩)
        | (go_at_call 163; refine (rabs_p _ _ (by omega)).mono ?_; rintro e w' ⟨rfl, rfl⟩)
        | (go_at_call 165; refine (rfq_p _ _).mono ?_; rintro e w1 ⟨rfl, hw1⟩))
      go_ret
      exact ⟨rfl, by assumption⟩
    · rw [fold_le (by omega)] at *
      go_enter Tryz.func146, Tryz.ntmps146
      go_wp2_with (first
        | (go_at_call 164; refine (rnrm_p _ _).mono ?_; rintro e w' ⟨rfl, rfl⟩)
        | (go_at_call 163; refine (rabs_p _ _ (by omega)).mono ?_; rintro e w' ⟨rfl, rfl⟩)
        | (go_at_call 165; refine (rfq_p _ _).mono ?_; rintro e w1 ⟨rfl, hw1⟩))
      go_ret
      exact ⟨rfl, by assumption⟩

theorem cos_p (a : Int) (w : World) : Calls Tryz.prog 156 #[.int .i64 a] w fun e w' => e = .returned (.int .i64 (cs a)) ∧ Dr w w' := by
  have h1 := nrm_ge a; have h2 := nrm_lt a
  have hm : iabs (nrm a) = max (nrm a) (-nrm a) := by unfold iabs; split <;> omega
  have e : cs a = sn (102944 - max (nrm a) (-nrm a)) := by unfold cs; rw [hm]
  rw [e]
  clear e hm
  go_enter Tryz.func156, Tryz.ntmps156
  go_wp2_with (first
    | (go_at_call 171; refine (nrm_p _ _).mono ?_; rintro e w' ⟨rfl, rfl⟩)
    | (go_at_call 157; refine (sin_p _ _).mono ?_; rintro e w1 ⟨rfl, hw1⟩))
  go_ret
  exact ⟨rfl, by assumption⟩

theorem rcos_p (a : Int) (w : World) : Calls Tryz.prog 145 #[.int .i64 a] w fun e w' => e = .returned (.int .i64 (cs a)) ∧ Dr w w' := by
  have h1 := nrm_ge a; have h2 := nrm_lt a
  have i1 := iabs_ge (nrm a); have i2 := iabs_nrm_le a
  go_enter Tryz.func145, Tryz.ntmps145
  go_wp2_with (first
    | (go_at_call 164; refine (rnrm_p _ _).mono ?_; rintro e w' ⟨rfl, rfl⟩)
    | (go_at_call 163; refine (rabs_p _ _ (by omega)).mono ?_; rintro e w' ⟨rfl, rfl⟩)
    | (go_at_call 146; refine (rsin_p _ _).mono ?_; rintro e w1 ⟨rfl, hw1⟩))
  go_ret
  exact ⟨rfl, by assumption⟩

end Go.Proofs.YtaahgblkmajceaaGreat

set_option linter.unusedVariables false
namespace Go.Proofs.YtaahgblkmajceaaGreat
open Go.RowKit Fx

theorem nrm_b (a : Int) (w : World) : Calls Tryz.prog 171 #[.int .i64 a] w fun e w' => e = .returned (.int .i64 (nrm a)) ∧ Below w.heap.size w w' := bl_of_same (nrm_p a w)

theorem rnrm_b (a : Int) (w : World) : Calls Tryz.prog 164 #[.int .i64 a] w fun e w' => e = .returned (.int .i64 (nrm a)) ∧ Below w.heap.size w w' := bl_of_same (rnrm_p a w)

theorem sin_b (a : Int) (w : World) : Calls Tryz.prog 157 #[.int .i64 a] w fun e w' => e = .returned (.int .i64 (sn a)) ∧ Below w.heap.size w w' := bl_of_dr (sin_p a w)

theorem rsin_b (a : Int) (w : World) : Calls Tryz.prog 146 #[.int .i64 a] w fun e w' => e = .returned (.int .i64 (sn a)) ∧ Below w.heap.size w w' := bl_of_dr (rsin_p a w)

theorem cos_b (a : Int) (w : World) : Calls Tryz.prog 156 #[.int .i64 a] w fun e w' => e = .returned (.int .i64 (cs a)) ∧ Below w.heap.size w w' := bl_of_dr (cos_p a w)

theorem rcos_b (a : Int) (w : World) : Calls Tryz.prog 145 #[.int .i64 a] w fun e w' => e = .returned (.int .i64 (cs a)) ∧ Below w.heap.size w w' := bl_of_dr (rcos_p a w)

theorem rot_b (a : Int) (w : World) : Calls Tryz.prog 131 #[.int .i64 a] w fun e w' => e = .returned (.agg #[.int .i64 (rotc a), .int .i64 (rots a)]) ∧ Below w.heap.size w w' := by
  have h1 := cs_ge a; have h2 := cs_le a; have h3 := sn_ge a; have h4 := sn_le a
  have c1 := mul_between h1 h2 h1 h2
  have s1 := mul_between h3 h4 h3 h4
  go_enter Tryz.func131, Tryz.ntmps131
  go_wp2_with (first | (go_at_call 156; refine Calls.mono (gw_at (cos_b _ _)) ?_; rintro e w1 ⟨rfl, q, rfl⟩) | (go_at_call 157; refine Calls.mono (gw_at (sin_b _ _)) ?_; rintro e w1 ⟨rfl, q, rfl⟩) | (go_at_call 158; refine Calls.mono (gw_at (isq_b _ _)) ?_; rintro e w1 ⟨rfl, q, rfl⟩) | (go_at_call 159; refine Calls.mono (gw_at (div_b _ _ _)) ?_; rintro e w1 ⟨rfl, q, rfl⟩))
  exact bodyPost_ret (v := .agg #[.int .i64 (rotc a), .int .i64 (rots a)]) (by simp [results, Tryz.results131, go_sem]; try (first | with_reducible rfl | exact ⟨rfl, rfl⟩ | exact ⟨rfl, rfl, rfl⟩ | exact ⟨rfl, rfl, rfl, rfl⟩ | exact ⟨rfl, rfl, rfl, rfl, rfl⟩ | exact ⟨rfl, rfl, rfl, rfl, rfl, rfl⟩ | rfl)) rfl ⟨rfl, bBel⟩

theorem rrot_b (a : Int) (w : World) : Calls Tryz.prog 124 #[.int .i64 a] w fun e w' => e = .returned (.agg #[.int .i64 (rotc a), .int .i64 (rots a)]) ∧ Below w.heap.size w w' := by
  have h1 := cs_ge a; have h2 := cs_le a; have h3 := sn_ge a; have h4 := sn_le a
  have c1 := mul_between h1 h2 h1 h2
  have s1 := mul_between h3 h4 h3 h4
  go_enter Tryz.func124, Tryz.ntmps124
  go_wp2_with (first | (go_at_call 145; refine Calls.mono (gw_at (rcos_b _ _)) ?_; rintro e w1 ⟨rfl, q, rfl⟩) | (go_at_call 146; refine Calls.mono (gw_at (rsin_b _ _)) ?_; rintro e w1 ⟨rfl, q, rfl⟩) | (go_at_call 140; refine Calls.mono (gw_at (risq_b _ _)) ?_; rintro e w1 ⟨rfl, q, rfl⟩) | (go_at_call 147; refine Calls.mono (gw_at (rdiv_b _ _ _)) ?_; rintro e w1 ⟨rfl, q, rfl⟩))
  exact bodyPost_ret (v := .agg #[.int .i64 (rotc a), .int .i64 (rots a)]) (by simp [results, Tryz.results124, go_sem]; try (first | with_reducible rfl | exact ⟨rfl, rfl⟩ | exact ⟨rfl, rfl, rfl⟩ | exact ⟨rfl, rfl, rfl, rfl⟩ | exact ⟨rfl, rfl, rfl, rfl, rfl⟩ | exact ⟨rfl, rfl, rfl, rfl, rfl, rfl⟩ | rfl)) rfl ⟨rfl, bBel⟩

end Go.Proofs.YtaahgblkmajceaaGreat

set_option linter.unusedVariables false
namespace Go.Proofs.YtaahgblkmajceaaGreat
open Go.RowKit Fx

theorem tapp_b (px py a vx vy : Int) (w : World) : Calls Tryz.prog 92 #[.agg #[.int .i64 px, .int .i64 py, .int .i64 a], .agg #[.int .i64 vx, .int .i64 vy]] w fun e w' => e = .returned (.agg #[.int .i64 (tpx px a vx vy), .int .i64 (tpy py a vx vy)]) ∧ Below w.heap.size w w' := by
  go_enter Tryz.func92, Tryz.ntmps92
  go_wp2_with (first | (go_at_call 131; refine Calls.mono (gw_at (rot_b _ _)) ?_; rintro e w1 ⟨rfl, q, rfl⟩) | (go_at_call 130; refine Calls.mono (gw_at (vrot_b _ _ _ _ _)) ?_; rintro e w1 ⟨rfl, q, rfl⟩) | (go_at_call 67; refine Calls.mono (gw_at (vadd_b _ _ _ _ _)) ?_; rintro e w1 ⟨rfl, q, rfl⟩))
  repeat
    refine wp_region_gw_tail 8 (by kernel_rfl) (by kernel_rfl) ?_
    simp only [List.take_succ_cons, List.take_zero, List.drop_succ_cons, List.drop_zero]
    repeat (go_big_quiet_step ((first | (go_at_call 131; exact gw_call (rot_b _ _)) | (go_at_call 130; exact gw_call (vrot_b _ _ _ _ _)) | (go_at_call 67; exact gw_call (vadd_b _ _ _ _ _)))))
    refine wpQuiet_nil ?_
    intro w1 hw1
    obtain ⟨q, rfl⟩ := hw1
    go_wp2_with (first | (go_at_call 131; refine Calls.mono (gw_at (rot_b _ _)) ?_; rintro e w1 ⟨rfl, q, rfl⟩) | (go_at_call 130; refine Calls.mono (gw_at (vrot_b _ _ _ _ _)) ?_; rintro e w1 ⟨rfl, q, rfl⟩) | (go_at_call 67; refine Calls.mono (gw_at (vadd_b _ _ _ _ _)) ?_; rintro e w1 ⟨rfl, q, rfl⟩))
  exact bodyPost_ret (v := .agg #[.int .i64 (tpx px a vx vy), .int .i64 (tpy py a vx vy)]) (by simp [results, Tryz.results92, go_sem]; try (first | with_reducible rfl | exact ⟨rfl, rfl⟩ | exact ⟨rfl, rfl, rfl⟩ | exact ⟨rfl, rfl, rfl, rfl⟩ | exact ⟨rfl, rfl, rfl, rfl, rfl⟩ | exact ⟨rfl, rfl, rfl, rfl, rfl, rfl⟩ | rfl)) rfl ⟨rfl, bBel⟩

theorem rtapp_b (px py a vx vy : Int) (w : World) : Calls Tryz.prog 86 #[.agg #[.int .i64 px, .int .i64 py, .int .i64 a], .agg #[.int .i64 vx, .int .i64 vy]] w fun e w' => e = .returned (.agg #[.int .i64 (tpx px a vx vy), .int .i64 (tpy py a vx vy)]) ∧ Below w.heap.size w w' := by
  go_enter Tryz.func86, Tryz.ntmps86
  go_wp2_with (first | (go_at_call 124; refine Calls.mono (gw_at (rrot_b _ _)) ?_; rintro e w1 ⟨rfl, q, rfl⟩) | (go_at_call 123; refine Calls.mono (gw_at (rvrot_b _ _ _ _ _)) ?_; rintro e w1 ⟨rfl, q, rfl⟩) | (go_at_call 122; refine Calls.mono (gw_at (rvadd_b _ _ _ _ _)) ?_; rintro e w1 ⟨rfl, q, rfl⟩))
  repeat
    refine wp_region_gw_tail 8 (by kernel_rfl) (by kernel_rfl) ?_
    simp only [List.take_succ_cons, List.take_zero, List.drop_succ_cons, List.drop_zero]
    repeat (go_big_quiet_step ((first | (go_at_call 124; exact gw_call (rrot_b _ _)) | (go_at_call 123; exact gw_call (rvrot_b _ _ _ _ _)) | (go_at_call 122; exact gw_call (rvadd_b _ _ _ _ _)))))
    refine wpQuiet_nil ?_
    intro w1 hw1
    obtain ⟨q, rfl⟩ := hw1
    go_wp2_with (first | (go_at_call 124; refine Calls.mono (gw_at (rrot_b _ _)) ?_; rintro e w1 ⟨rfl, q, rfl⟩) | (go_at_call 123; refine Calls.mono (gw_at (rvrot_b _ _ _ _ _)) ?_; rintro e w1 ⟨rfl, q, rfl⟩) | (go_at_call 122; refine Calls.mono (gw_at (rvadd_b _ _ _ _ _)) ?_; rintro e w1 ⟨rfl, q, rfl⟩))
  exact bodyPost_ret (v := .agg #[.int .i64 (tpx px a vx vy), .int .i64 (tpy py a vx vy)]) (by simp [results, Tryz.results86, go_sem]; try (first | with_reducible rfl | exact ⟨rfl, rfl⟩ | exact ⟨rfl, rfl, rfl⟩ | exact ⟨rfl, rfl, rfl, rfl⟩ | exact ⟨rfl, rfl, rfl, rfl, rfl⟩ | exact ⟨rfl, rfl, rfl, rfl, rfl, rfl⟩ | rfl)) rfl ⟨rfl, bBel⟩

end Go.Proofs.YtaahgblkmajceaaGreat
