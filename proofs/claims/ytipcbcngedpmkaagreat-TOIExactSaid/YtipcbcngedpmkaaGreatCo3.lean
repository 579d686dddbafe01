/- Contracts of package angle and of its reference: each function returns the number (or the rotation) that the Lean function of the same meaning gives, and nothing that existed has changed. No conditions.
The contracts of chapter 2 that later chapters call, of the program and of the reference, in the form that they use: nothing below the heap's old size has turned. No conditions.
Contracts of package transform and of its reference: each returns what the Lean functions of the same meaning give, component by component, and nothing that existed has changed. No conditions. -/
import Derived.Test.YtipcbcngedpmkaaGreatCo1
import Derived.Test.YtipcbcngedpmkaaGreatMa3
import Derived.Test.YtipcbcngedpmkaaGreatCo2

set_option linter.unusedVariables false
namespace Go.Proofs.YtipcbcngedpmkaaGreat
open Go.RowKit Fx

theorem nrm_p (a : Int) (w : World) : Calls Tryz.prog 53 #[.int .i64 a] w fun e w' => e = .returned (.int .i64 (nrm a)) ∧ w = w' := by
  have h1 := tmod_ge a; have h2 := tmod_le a
  by_cases h : 205888 ≤ a.tmod 411776
  · go_enter Tryz.func53, Tryz.ntmps53
    go_wp2
    go_ret
    exact ⟨ret_int (nrm_hi h).symm, rfl⟩
  · by_cases h3 : a.tmod 411776 < -205888
    · go_enter Tryz.func53, Tryz.ntmps53
      go_wp2
      go_ret
      exact ⟨ret_int (nrm_lo h3).symm, rfl⟩
    · go_enter Tryz.func53, Tryz.ntmps53
      go_wp2
      go_ret
      exact ⟨ret_int (nrm_in (by omega) (by omega)).symm, rfl⟩

theorem rnrm_p (a : Int) (w : World) : Calls Tryz.prog 50 #[.int .i64 a] w fun e w' => e = .returned (.int .i64 (nrm a)) ∧ w = w' := by
  have h1 := tmod_ge a; have h2 := tmod_le a
  by_cases h : 205888 ≤ a.tmod 411776
  · go_enter Tryz.func50, Tryz.ntmps50
    go_wp2
    go_ret
    exact ⟨ret_int (nrm_hi h).symm, rfl⟩
  · by_cases h3 : a.tmod 411776 < -205888
    · go_enter Tryz.func50, Tryz.ntmps50
      go_wp2
      go_ret
      exact ⟨ret_int (nrm_lo h3).symm, rfl⟩
    · go_enter Tryz.func50, Tryz.ntmps50
      go_wp2
      go_ret
      exact ⟨ret_int (nrm_in (by omega) (by omega)).symm, rfl⟩

theorem rabs_p (x : Int) (w : World) (h1 : -4611686018427387904 ≤ x) : Calls Tryz.prog 133 #[.int .i64 x] w fun e w' => e = .returned (.int .i64 (iabs x)) ∧ w = w' := by
  by_cases h : x < 0
  · go_enter Tryz.func133, Tryz.ntmps133
    go_wp2
    go_ret
    exact ⟨ret_int (iabs_neg h).symm, rfl⟩
  · go_enter Tryz.func133, Tryz.ntmps133
    go_wp2
    go_ret
    exact ⟨ret_int (iabs_pos (by omega)).symm, rfl⟩

theorem hts_p (m : Int) (w : World) (h1 : 0 ≤ m) (h2 : m ≤ 205888) : Calls Tryz.prog 120 #[.int .i64 m] w fun e w' => e = .returned (.int .i64 (poly (fold m))) ∧ Dr w w' := by
  go_enter Tryz.func120, Tryz.ntmps120
  go_wp2_with (first
    | (go_at_call 105; refine (div_p _ _ _).mono ?_; rintro e w1 ⟨rfl, hw1⟩)
    | (go_at_call 19; refine (mul_p _ _ _).mono ?_; rintro e w2 ⟨rfl, hw2⟩)
    | (go_at_call 36; refine (sub_p _ _ _).mono ?_; rintro e w' ⟨rfl, rfl⟩))
  go_ret
  exact ⟨rfl, by repeat (first | exact Dr.refl _ | assumption | refine Dr.trans ?_ (by assumption))⟩

theorem rfq_p (x : Int) (w : World) : Calls Tryz.prog 134 #[.int .i64 x] w fun e w' => e = .returned (.int .i64 (poly x)) ∧ Dr w w' := by
  go_enter Tryz.func134, Tryz.ntmps134
  go_wp2_with (first
    | (go_at_call 129; refine (rdiv_p _ _ _).mono ?_; rintro e w1 ⟨rfl, hw1⟩)
    | (go_at_call 26; refine (rmul_p _ _ _).mono ?_; rintro e w2 ⟨rfl, hw2⟩)
    | (go_at_call 48; refine (rsub_p _ _ _).mono ?_; rintro e w' ⟨rfl, rfl⟩))
  go_ret
  exact ⟨rfl, by repeat (first | exact Dr.refl _ | assumption | refine Dr.trans ?_ (by assumption))⟩

theorem sin_p (a : Int) (w : World) : Calls Tryz.prog 104 #[.int .i64 a] w fun e w' => e = .returned (.int .i64 (sn a)) ∧ Dr w w' := by
  have h1 := nrm_ge a; have h2 := nrm_lt a
  by_cases h : nrm a < 0
  · have p1 := poly_ge (fold (-nrm a)); have p2 := poly_le (fold (-nrm a))
    rw [sn_neg h, iabs_neg h]
    go_enter Tryz.func104, Tryz.ntmps104
    go_wp2_with (first
      | (go_at_call 53; refine (nrm_p _ _).mono ?_; rintro e w' ⟨rfl, rfl⟩)
      | (go_at_call 120; refine (hts_p _ _ (by omega) (by omega)).mono ?_; rintro e w1 ⟨rfl, hw1⟩))
    go_ret
    exact ⟨rfl, by assumption⟩
  · rw [sn_pos h, iabs_pos (by omega)]
    go_enter Tryz.func104, Tryz.ntmps104
    go_wp2_with (first
      | (go_at_call 53; refine (nrm_p _ _).mono ?_; rintro e w' ⟨rfl, rfl⟩)
      | (go_at_call 120; refine (hts_p _ _ (by omega) (by omega)).mono ?_; rintro e w1 ⟨rfl, hw1⟩))
    go_ret
    exact ⟨rfl, by assumption⟩

theorem rsin_p (a : Int) (w : World) : Calls Tryz.prog 128 #[.int .i64 a] w fun e w' => e = .returned (.int .i64 (sn a)) ∧ Dr w w' := by
  have h1 := nrm_ge a; have h2 := nrm_lt a
  have i1 := iabs_ge (nrm a); have i2 := iabs_nrm_le a
  have p1 := poly_ge (fold (iabs (nrm a))); have p2 := poly_le (fold (iabs (nrm a)))
  by_cases h : nrm a < 0
  · rw [sn_neg h]
    by_cases k : 102944 < iabs (nrm a)
    · rw [fold_gt k] at *
      go_enter Tryz.func128, Tryz.ntmps128
      go_wp2_with (first
        | (go_at_call 50; refine (rnrm_p _ _).mono ?_; rintro e w' ⟨rfl, rfl⟩)
        | (go_at_call 133; refine (rabs_p _ _ (by omega)).mono ?_; rintro e w' ⟨rfl, rfl⟩)
        | (go_at_call 134; refine (rfq_p _ _).mono ?_; rintro e w1 ⟨rfl, hw1⟩))
      go_ret
      exact ⟨rfl, by assumption⟩
    · rw [fold_le (by omega)] at *
      go_enter Tryz.func128, Tryz.ntmps128
      go_wp2_with (first
        | (go_at_call 50; refine (rnrm_p _ _).mono ?_; rintro e w' ⟨rfl, rfl⟩)
        | (go_at_call 133; refine (rabs_p _ _ (by omega)).mono ?_; rintro e w' ⟨rfl, rfl⟩)
        | (go_at_call 134; refine (rfq_p _ _).mono ?_; rintro e w1 ⟨rfl, hw1⟩))
      go_ret
      exact ⟨rfl, by assumption⟩
  · rw [sn_pos h]
    by_cases k : 102944 < iabs (nrm a)
    · rw [fold_gt k] at *
      go_enter Tryz.func128, Tryz.ntmps128
      go_wp2_with (first
        | (go_at_call 50; refine (rnrm_p _ _).mono ?_; rintro e w' ⟨rfl, rfl⟩)
        | (go_at_call 133; refine (rabs_p _ _ (by omega)).mono ?_; rintro e w' ⟨rfl, rfl⟩)
        | (go_at_call 134; refine (rfq_p _ _).mono ?_; rintro e w1 ⟨rfl, hw1⟩))
      go_ret
      exact ⟨rfl, by assumption⟩
    · rw [fold_le (by omega)] at *
      go_enter Tryz.func128, Tryz.ntmps128
      go_wp2_with (first
        | (go_at_call 50; refine (rnrm_p _ _).mono ?_; rintro e w' ⟨rfl, rfl⟩)
        | (go_at_call 133; refine (rabs_p _ _ (by omega)).mono ?_; rintro e w' ⟨rfl, rfl⟩)
        | (go_at_call 134; refine (rfq_p _ _).mono ?_; rintro e w1 ⟨rfl, hw1⟩))
      go_ret
      exact ⟨rfl, by assumption⟩

theorem cos_p (a : Int) (w : World) : Calls Tryz.prog 103 #[.int .i64 a] w fun e w' => e = .returned (.int .i64 (cs a)) ∧ Dr w w' := by
  have h1 := nrm_ge a; have h2 := nrm_lt a
  have hm : iabs (nrm a) = max (nrm a) (-nrm a) := by unfold iabs; split <;> omega
  have e : cs a = sn (102944 - max (nrm a) (-nrm a)) := by unfold cs; rw [hm]
  rw [e]
  clear e hm
  go_enter Tryz.func103, Tryz.ntmps103
  go_wp2_with (first
    | (go_at_call 53; refine (nrm_p _ _).mono ?_; rintro e w' ⟨rfl, rfl⟩)
    | (go_at_call 104; refine (sin_p _ _).mono ?_; rintro e w1 ⟨rfl, hw1⟩))
  go_ret
  exact ⟨rfl, by assumption⟩

theorem rcos_p (a : Int) (w : World) : Calls Tryz.prog 127 #[.int .i64 a] w fun e w' => e = .returned (.int .i64 (cs a)) ∧ Dr w w' := by
  have h1 := nrm_ge a; have h2 := nrm_lt a
  have i1 := iabs_ge (nrm a); have i2 := iabs_nrm_le a
  go_enter Tryz.func127, Tryz.ntmps127
  go_wp2_with (first
    | (go_at_call 50; refine (rnrm_p _ _).mono ?_; rintro e w' ⟨rfl, rfl⟩)
    | (go_at_call 133; refine (rabs_p _ _ (by omega)).mono ?_; rintro e w' ⟨rfl, rfl⟩)
    | (go_at_call 128; refine (rsin_p _ _).mono ?_; rintro e w1 ⟨rfl, hw1⟩))
  go_ret
  exact ⟨rfl, by assumption⟩

theorem dif_p (a b : Int) (w : World) : Calls Tryz.prog 18 #[.int .i64 a, .int .i64 b] w fun e w' => e = .returned (.int .i64 (dif a b)) ∧ w = w' := by
  have h1 := nrm_ge a; have h2 := nrm_lt a; have h3 := nrm_ge b; have h4 := nrm_lt b
  go_enter Tryz.func18, Tryz.ntmps18
  go_wp2_with (go_at_call 53; refine (nrm_p _ _).mono ?_; rintro e w' ⟨rfl, rfl⟩)
  go_ret
  exact ⟨rfl, rfl⟩

theorem rdif_p (a b : Int) (w : World) : Calls Tryz.prog 22 #[.int .i64 a, .int .i64 b] w fun e w' => e = .returned (.int .i64 (dif a b)) ∧ w = w' := by
  have h1 := nrm_ge a; have h2 := nrm_lt a; have h3 := nrm_ge b; have h4 := nrm_lt b
  go_enter Tryz.func22, Tryz.ntmps22
  go_wp2_with (go_at_call 50; refine (rnrm_p _ _).mono ?_; rintro e w' ⟨rfl, rfl⟩)
  go_ret
  exact ⟨rfl, rfl⟩

end Go.Proofs.YtipcbcngedpmkaaGreat

set_option linter.unusedVariables false
namespace Go.Proofs.YtipcbcngedpmkaaGreat
open Go.RowKit Fx

theorem nrm_b (a : Int) (w : World) : Calls Tryz.prog 53 #[.int .i64 a] w fun e w' => e = .returned (.int .i64 (nrm a)) ∧ Below w.heap.size w w' := bl_of_same (nrm_p a w)

theorem rnrm_b (a : Int) (w : World) : Calls Tryz.prog 50 #[.int .i64 a] w fun e w' => e = .returned (.int .i64 (nrm a)) ∧ Below w.heap.size w w' := bl_of_same (rnrm_p a w)

theorem sin_b (a : Int) (w : World) : Calls Tryz.prog 104 #[.int .i64 a] w fun e w' => e = .returned (.int .i64 (sn a)) ∧ Below w.heap.size w w' := bl_of_dr (sin_p a w)

theorem rsin_b (a : Int) (w : World) : Calls Tryz.prog 128 #[.int .i64 a] w fun e w' => e = .returned (.int .i64 (sn a)) ∧ Below w.heap.size w w' := bl_of_dr (rsin_p a w)

theorem cos_b (a : Int) (w : World) : Calls Tryz.prog 103 #[.int .i64 a] w fun e w' => e = .returned (.int .i64 (cs a)) ∧ Below w.heap.size w w' := bl_of_dr (cos_p a w)

theorem rcos_b (a : Int) (w : World) : Calls Tryz.prog 127 #[.int .i64 a] w fun e w' => e = .returned (.int .i64 (cs a)) ∧ Below w.heap.size w w' := bl_of_dr (rcos_p a w)

theorem dif_b (a b : Int) (w : World) : Calls Tryz.prog 18 #[.int .i64 a, .int .i64 b] w fun e w' => e = .returned (.int .i64 (dif a b)) ∧ Below w.heap.size w w' := bl_of_same (dif_p a b w)

theorem rdif_b (a b : Int) (w : World) : Calls Tryz.prog 22 #[.int .i64 a, .int .i64 b] w fun e w' => e = .returned (.int .i64 (dif a b)) ∧ Below w.heap.size w w' := bl_of_same (rdif_p a b w)

theorem rot_b (a : Int) (w : World) : Calls Tryz.prog 86 #[.int .i64 a] w fun e w' => e = .returned (.agg #[.int .i64 (rotc a), .int .i64 (rots a)]) ∧ Below w.heap.size w w' := by
  have h1 := cs_ge a; have h2 := cs_le a; have h3 := sn_ge a; have h4 := sn_le a
  have c1 := mul_between h1 h2 h1 h2
  have s1 := mul_between h3 h4 h3 h4
  go_enter Tryz.func86, Tryz.ntmps86
  go_wp2_with (first | (go_at_call 103; refine Calls.mono (gw_at (cos_b _ _)) ?_; rintro e w1 ⟨rfl, q, rfl⟩) | (go_at_call 104; refine Calls.mono (gw_at (sin_b _ _)) ?_; rintro e w1 ⟨rfl, q, rfl⟩) | (go_at_call 52; refine Calls.mono (gw_at (isq_b _ _)) ?_; rintro e w1 ⟨rfl, q, rfl⟩) | (go_at_call 105; refine Calls.mono (gw_at (div_b _ _ _)) ?_; rintro e w1 ⟨rfl, q, rfl⟩))
  exact bodyPost_ret (v := .agg #[.int .i64 (rotc a), .int .i64 (rots a)]) (by simp [results, Tryz.results86, go_sem]; try (first | with_reducible rfl | exact ⟨rfl, rfl⟩ | exact ⟨rfl, rfl, rfl⟩ | exact ⟨rfl, rfl, rfl, rfl⟩ | exact ⟨rfl, rfl, rfl, rfl, rfl⟩ | exact ⟨rfl, rfl, rfl, rfl, rfl, rfl⟩ | rfl)) rfl ⟨rfl, bBel⟩

theorem rrot_b (a : Int) (w : World) : Calls Tryz.prog 113 #[.int .i64 a] w fun e w' => e = .returned (.agg #[.int .i64 (rotc a), .int .i64 (rots a)]) ∧ Below w.heap.size w w' := by
  have h1 := cs_ge a; have h2 := cs_le a; have h3 := sn_ge a; have h4 := sn_le a
  have c1 := mul_between h1 h2 h1 h2
  have s1 := mul_between h3 h4 h3 h4
  go_enter Tryz.func113, Tryz.ntmps113
  go_wp2_with (first | (go_at_call 127; refine Calls.mono (gw_at (rcos_b _ _)) ?_; rintro e w1 ⟨rfl, q, rfl⟩) | (go_at_call 128; refine Calls.mono (gw_at (rsin_b _ _)) ?_; rintro e w1 ⟨rfl, q, rfl⟩) | (go_at_call 57; refine Calls.mono (gw_at (risq_b _ _)) ?_; rintro e w1 ⟨rfl, q, rfl⟩) | (go_at_call 129; refine Calls.mono (gw_at (rdiv_b _ _ _)) ?_; rintro e w1 ⟨rfl, q, rfl⟩))
  exact bodyPost_ret (v := .agg #[.int .i64 (rotc a), .int .i64 (rots a)]) (by simp [results, Tryz.results113, go_sem]; try (first | with_reducible rfl | exact ⟨rfl, rfl⟩ | exact ⟨rfl, rfl, rfl⟩ | exact ⟨rfl, rfl, rfl, rfl⟩ | exact ⟨rfl, rfl, rfl, rfl, rfl⟩ | exact ⟨rfl, rfl, rfl, rfl, rfl, rfl⟩ | rfl)) rfl ⟨rfl, bBel⟩

end Go.Proofs.YtipcbcngedpmkaaGreat

set_option linter.unusedVariables false
namespace Go.Proofs.YtipcbcngedpmkaaGreat
open Go.RowKit Fx

theorem tang_b (a b : Int) (h : -536870911 ≤ b ∧ b ≤ 536870911) (w : World) : Calls Tryz.prog 38 #[.int .i64 a, .int .i64 b] w fun e w' => e = .returned (.int .i64 (tang a b)) ∧ Below w.heap.size w w' := by
  have h1 := nrm_ge a; have h2 := nrm_lt a
  obtain ⟨h3, h4⟩ := h
  go_enter Tryz.func38, Tryz.ntmps38
  go_wp2_with (first | (go_at_call 53; refine Calls.mono (gw_at (nrm_b _ _)) ?_; rintro e w1 ⟨rfl, q, rfl⟩))
  go_ret
  exact ⟨rfl, bBel⟩

theorem prod_b (a b : Int) (w : World) : Calls Tryz.prog 39 #[.int .i64 a, .int .i64 b] w fun e w' => e = .returned (.int .i64 (mul a b)) ∧ Below w.heap.size w w' := by
  go_enter Tryz.func39, Tryz.ntmps39
  go_wp2_with (first | (go_at_call 68; refine Calls.mono (gw_at (vscale_b _ _ _ _)) ?_; rintro e w1 ⟨rfl, q, rfl⟩))
  go_ret
  exact ⟨rfl, bBel⟩

theorem tapp_b (px py a vx vy : Int) (w : World) : Calls Tryz.prog 64 #[.agg #[.int .i64 px, .int .i64 py, .int .i64 a], .agg #[.int .i64 vx, .int .i64 vy]] w fun e w' => e = .returned (.agg #[.int .i64 (tpx px a vx vy), .int .i64 (tpy py a vx vy)]) ∧ Below w.heap.size w w' := by
  go_enter Tryz.func64, Tryz.ntmps64
  go_wp2_with (first | (go_at_call 86; refine Calls.mono (gw_at (rot_b _ _)) ?_; rintro e w1 ⟨rfl, q, rfl⟩) | (go_at_call 85; refine Calls.mono (gw_at (vrot_b _ _ _ _ _)) ?_; rintro e w1 ⟨rfl, q, rfl⟩) | (go_at_call 84; refine Calls.mono (gw_at (vadd_b _ _ _ _ _)) ?_; rintro e w1 ⟨rfl, q, rfl⟩))
  repeat
    refine wp_region_gw_tail 8 (by kernel_rfl) (by kernel_rfl) ?_
    simp only [List.take_succ_cons, List.take_zero, List.drop_succ_cons, List.drop_zero]
    repeat (go_big_quiet_step ((first | (go_at_call 86; exact gw_call (rot_b _ _)) | (go_at_call 85; exact gw_call (vrot_b _ _ _ _ _)) | (go_at_call 84; exact gw_call (vadd_b _ _ _ _ _)))))
    refine wpQuiet_nil ?_
    intro w1 hw1
    obtain ⟨q, rfl⟩ := hw1
    go_wp2_with (first | (go_at_call 86; refine Calls.mono (gw_at (rot_b _ _)) ?_; rintro e w1 ⟨rfl, q, rfl⟩) | (go_at_call 85; refine Calls.mono (gw_at (vrot_b _ _ _ _ _)) ?_; rintro e w1 ⟨rfl, q, rfl⟩) | (go_at_call 84; refine Calls.mono (gw_at (vadd_b _ _ _ _ _)) ?_; rintro e w1 ⟨rfl, q, rfl⟩))
  exact bodyPost_ret (v := .agg #[.int .i64 (tpx px a vx vy), .int .i64 (tpy py a vx vy)]) (by simp [results, Tryz.results64, go_sem]; try (first | with_reducible rfl | exact ⟨rfl, rfl⟩ | exact ⟨rfl, rfl, rfl⟩ | exact ⟨rfl, rfl, rfl, rfl⟩ | exact ⟨rfl, rfl, rfl, rfl, rfl⟩ | exact ⟨rfl, rfl, rfl, rfl, rfl, rfl⟩ | rfl)) rfl ⟨rfl, bBel⟩

theorem rtapp_b (px py a vx vy : Int) (w : World) : Calls Tryz.prog 90 #[.agg #[.int .i64 px, .int .i64 py, .int .i64 a], .agg #[.int .i64 vx, .int .i64 vy]] w fun e w' => e = .returned (.agg #[.int .i64 (tpx px a vx vy), .int .i64 (tpy py a vx vy)]) ∧ Below w.heap.size w w' := by
  go_enter Tryz.func90, Tryz.ntmps90
  go_wp2_with (first | (go_at_call 113; refine Calls.mono (gw_at (rrot_b _ _)) ?_; rintro e w1 ⟨rfl, q, rfl⟩) | (go_at_call 112; refine Calls.mono (gw_at (rvrot_b _ _ _ _ _)) ?_; rintro e w1 ⟨rfl, q, rfl⟩) | (go_at_call 111; refine Calls.mono (gw_at (rvadd_b _ _ _ _ _)) ?_; rintro e w1 ⟨rfl, q, rfl⟩))
  repeat
    refine wp_region_gw_tail 8 (by kernel_rfl) (by kernel_rfl) ?_
    simp only [List.take_succ_cons, List.take_zero, List.drop_succ_cons, List.drop_zero]
    repeat (go_big_quiet_step ((first | (go_at_call 113; exact gw_call (rrot_b _ _)) | (go_at_call 112; exact gw_call (rvrot_b _ _ _ _ _)) | (go_at_call 111; exact gw_call (rvadd_b _ _ _ _ _)))))
    refine wpQuiet_nil ?_
    intro w1 hw1
    obtain ⟨q, rfl⟩ := hw1
    go_wp2_with (first | (go_at_call 113; refine Calls.mono (gw_at (rrot_b _ _)) ?_; rintro e w1 ⟨rfl, q, rfl⟩) | (go_at_call 112; refine Calls.mono (gw_at (rvrot_b _ _ _ _ _)) ?_; rintro e w1 ⟨rfl, q, rfl⟩) | (go_at_call 111; refine Calls.mono (gw_at (rvadd_b _ _ _ _ _)) ?_; rintro e w1 ⟨rfl, q, rfl⟩))
  exact bodyPost_ret (v := .agg #[.int .i64 (tpx px a vx vy), .int .i64 (tpy py a vx vy)]) (by simp [results, Tryz.results90, go_sem]; try (first | with_reducible rfl | exact ⟨rfl, rfl⟩ | exact ⟨rfl, rfl, rfl⟩ | exact ⟨rfl, rfl, rfl, rfl⟩ | exact ⟨rfl, rfl, rfl, rfl, rfl⟩ | exact ⟨rfl, rfl, rfl, rfl, rfl, rfl⟩ | rfl)) rfl ⟨rfl, bBel⟩

theorem tint_b (ax ay aa bx b_y ba t : Int) (w : World) : Calls Tryz.prog 12 #[.agg #[.int .i64 ax, .int .i64 ay, .int .i64 aa], .agg #[.int .i64 bx, .int .i64 b_y, .int .i64 ba], .int .i64 t] w fun e w' => e = .returned (.agg #[.int .i64 (lerp ax bx t), .int .i64 (lerp ay b_y t), .int .i64 (tang aa (mul (dif aa ba) t))]) ∧ Below w.heap.size w w' := by
  have h1 := nrm_ge aa; have h2 := nrm_lt aa
  have hb := mul_sat (dif aa ba) t
  have hb1 := hb.1; have hb2 := hb.2
  go_enter Tryz.func12, Tryz.ntmps12
  go_wp2_with (first | (go_at_call 37; refine Calls.mono (gw_at (vlerp_b _ _ _ _ _ _)) ?_; rintro e w1 ⟨rfl, q, rfl⟩) | (go_at_call 18; refine Calls.mono (gw_at (dif_b _ _ _)) ?_; rintro e w1 ⟨rfl, q, rfl⟩) | (go_at_call 39; refine Calls.mono (gw_at (prod_b _ _ _)) ?_; rintro e w1 ⟨rfl, q, rfl⟩) | (go_at_call 38; refine Calls.mono (gw_at (tang_b _ _ (by assumption) _)) ?_; rintro e w1 ⟨rfl, q, rfl⟩))
  repeat
    refine wp_region_gw_tail 17 (by kernel_rfl) (by kernel_rfl) ?_
    simp only [List.take_succ_cons, List.take_zero, List.drop_succ_cons, List.drop_zero]
    repeat (go_big_quiet_step ((first | (go_at_call 37; exact gw_call (vlerp_b _ _ _ _ _ _)) | (go_at_call 18; exact gw_call (dif_b _ _ _)) | (go_at_call 39; exact gw_call (prod_b _ _ _)) | (go_at_call 38; exact gw_call (tang_b _ _ (by assumption) _)))))
    refine wpQuiet_nil ?_
    intro w1 hw1
    obtain ⟨q, rfl⟩ := hw1
    go_wp2_with (first | (go_at_call 37; refine Calls.mono (gw_at (vlerp_b _ _ _ _ _ _)) ?_; rintro e w1 ⟨rfl, q, rfl⟩) | (go_at_call 18; refine Calls.mono (gw_at (dif_b _ _ _)) ?_; rintro e w1 ⟨rfl, q, rfl⟩) | (go_at_call 39; refine Calls.mono (gw_at (prod_b _ _ _)) ?_; rintro e w1 ⟨rfl, q, rfl⟩) | (go_at_call 38; refine Calls.mono (gw_at (tang_b _ _ (by assumption) _)) ?_; rintro e w1 ⟨rfl, q, rfl⟩))
  exact bodyPost_ret (v := .agg #[.int .i64 (lerp ax bx t), .int .i64 (lerp ay b_y t), .int .i64 (tang aa (mul (dif aa ba) t))]) (by simp [results, Tryz.results12, go_sem]; try (first | with_reducible rfl | exact ⟨rfl, rfl⟩ | exact ⟨rfl, rfl, rfl⟩ | exact ⟨rfl, rfl, rfl, rfl⟩ | exact ⟨rfl, rfl, rfl, rfl, rfl⟩ | exact ⟨rfl, rfl, rfl, rfl, rfl, rfl⟩ | rfl)) rfl ⟨rfl, bBel⟩

theorem rtint_b (ax ay aa bx b_y ba t : Int) (w : World) : Calls Tryz.prog 15 #[.agg #[.int .i64 ax, .int .i64 ay, .int .i64 aa], .agg #[.int .i64 bx, .int .i64 b_y, .int .i64 ba], .int .i64 t] w fun e w' => e = .returned (.agg #[.int .i64 (lerp ax bx t), .int .i64 (lerp ay b_y t), .int .i64 (tang aa (mul (dif aa ba) t))]) ∧ Below w.heap.size w w' := by
  have h1 := nrm_ge aa; have h2 := nrm_lt aa
  have hb := mul_sat (dif aa ba) t
  have hb1 := hb.1; have hb2 := hb.2
  go_enter Tryz.func15, Tryz.ntmps15
  go_wp2_with (first | (go_at_call 22; refine Calls.mono (gw_at (rdif_b _ _ _)) ?_; rintro e w1 ⟨rfl, q, rfl⟩) | (go_at_call 26; refine Calls.mono (gw_at (rmul_b _ _ _)) ?_; rintro e w1 ⟨rfl, q, rfl⟩) | (go_at_call 49; refine Calls.mono (gw_at (rvlerp_b _ _ _ _ _ _)) ?_; rintro e w1 ⟨rfl, q, rfl⟩) | (go_at_call 50; refine Calls.mono (gw_at (rnrm_b _ _)) ?_; rintro e w1 ⟨rfl, q, rfl⟩))
  repeat
    refine wp_region_gw_tail 13 (by kernel_rfl) (by kernel_rfl) ?_
    simp only [List.take_succ_cons, List.take_zero, List.drop_succ_cons, List.drop_zero]
    repeat (go_big_quiet_step ((first | (go_at_call 22; exact gw_call (rdif_b _ _ _)) | (go_at_call 26; exact gw_call (rmul_b _ _ _)) | (go_at_call 49; exact gw_call (rvlerp_b _ _ _ _ _ _)) | (go_at_call 50; exact gw_call (rnrm_b _ _)))))
    refine wpQuiet_nil ?_
    intro w1 hw1
    obtain ⟨q, rfl⟩ := hw1
    go_wp2_with (first | (go_at_call 22; refine Calls.mono (gw_at (rdif_b _ _ _)) ?_; rintro e w1 ⟨rfl, q, rfl⟩) | (go_at_call 26; refine Calls.mono (gw_at (rmul_b _ _ _)) ?_; rintro e w1 ⟨rfl, q, rfl⟩) | (go_at_call 49; refine Calls.mono (gw_at (rvlerp_b _ _ _ _ _ _)) ?_; rintro e w1 ⟨rfl, q, rfl⟩) | (go_at_call 50; refine Calls.mono (gw_at (rnrm_b _ _)) ?_; rintro e w1 ⟨rfl, q, rfl⟩))
  exact bodyPost_ret (v := .agg #[.int .i64 (lerp ax bx t), .int .i64 (lerp ay b_y t), .int .i64 (tang aa (mul (dif aa ba) t))]) (by simp [results, Tryz.results15, go_sem]; try (first | with_reducible rfl | exact ⟨rfl, rfl⟩ | exact ⟨rfl, rfl, rfl⟩ | exact ⟨rfl, rfl, rfl, rfl⟩ | exact ⟨rfl, rfl, rfl, rfl, rfl⟩ | exact ⟨rfl, rfl, rfl, rfl, rfl, rfl⟩ | rfl)) rfl ⟨rfl, bBel⟩

end Go.Proofs.YtipcbcngedpmkaaGreat
