/- Contracts of package angle and of its reference: each function returns the number (or the rotation) that the Lean function of the same meaning gives, and nothing that existed has changed. No conditions.
The contracts of chapter 2 that later chapters call, of the program and of the reference, in the form that they use: nothing below the heap's old size has turned. No conditions.
Contracts of package transform and of its reference: each returns what the Lean functions of the same meaning give, component by component, and nothing that existed has changed. No conditions. -/
import Derived.Test.YtpdhfhcfjdnlpaaCo1
import Derived.Test.YtpdhfhcfjdnlpaaMa3
import Derived.Test.YtpdhfhcfjdnlpaaCo2

set_option linter.unusedVariables false
namespace Go.Proofs.Ytpdhfhcfjdnlpaa
open Go.RowKit Fx

theorem nrm_p (a : Int) (w : World) : Calls Try.prog 99 #[.int .i64 a] w fun e w' => e = .returned (.int .i64 (nrm a)) ∧ w = w' := by
  have h1 := tmod_ge a; have h2 := tmod_le a
  by_cases h : 205888 ≤ a.tmod 411776
  · go_enter Try.func99, Try.ntmps99
    go_wp2
    go_ret
    exact ⟨ret_int (nrm_hi h).symm, rfl⟩
  · by_cases h3 : a.tmod 411776 < -205888
    · go_enter Try.func99, Try.ntmps99
      go_wp2
      go_ret
      exact ⟨ret_int (nrm_lo h3).symm, rfl⟩
    · go_enter Try.func99, Try.ntmps99
      go_wp2
      go_ret
      exact ⟨ret_int (nrm_in (by omega) (by omega)).symm, rfl⟩

theorem hts_p (m : Int) (w : World) (h1 : 0 ≤ m) (h2 : m ≤ 205888) : Calls Try.prog 100 #[.int .i64 m] w fun e w' => e = .returned (.int .i64 (poly (fold m))) ∧ Dr w w' := by
  go_enter Try.func100, Try.ntmps100
  go_wp2_with (first
    | (go_at_call 36; refine (div_p _ _ _).mono ?_; rintro e w1 ⟨rfl, hw1⟩)
    | (go_at_call 74; refine (mul_p _ _ _).mono ?_; rintro e w2 ⟨rfl, hw2⟩)
    | (go_at_call 20; refine (sub_p _ _ _).mono ?_; rintro e w' ⟨rfl, rfl⟩))
  go_ret
  exact ⟨rfl, by repeat (first | exact Dr.refl _ | assumption | refine Dr.trans ?_ (by assumption))⟩

theorem sin_p (a : Int) (w : World) : Calls Try.prog 91 #[.int .i64 a] w fun e w' => e = .returned (.int .i64 (sn a)) ∧ Dr w w' := by
  have h1 := nrm_ge a; have h2 := nrm_lt a
  by_cases h : nrm a < 0
  · have p1 := poly_ge (fold (-nrm a)); have p2 := poly_le (fold (-nrm a))
    rw [sn_neg h, iabs_neg h]
    go_enter Try.func91, Try.ntmps91
    go_wp2_with (first
      | (go_at_call 99; refine (nrm_p _ _).mono ?_; rintro e w' ⟨rfl, rfl⟩)
      | (go_at_call 100; refine (hts_p _ _ (by omega) (by omega)).mono ?_; rintro e w1 ⟨rfl, hw1⟩))
    go_ret
    exact ⟨rfl, by assumption⟩
  · rw [sn_pos h, iabs_pos (by omega)]
    go_enter Try.func91, Try.ntmps91
    go_wp2_with (first
      | (go_at_call 99; refine (nrm_p _ _).mono ?_; rintro e w' ⟨rfl, rfl⟩)
      | (go_at_call 100; refine (hts_p _ _ (by omega) (by omega)).mono ?_; rintro e w1 ⟨rfl, hw1⟩))
    go_ret
    exact ⟨rfl, by assumption⟩

theorem cos_p (a : Int) (w : World) : Calls Try.prog 90 #[.int .i64 a] w fun e w' => e = .returned (.int .i64 (cs a)) ∧ Dr w w' := by
  have h1 := nrm_ge a; have h2 := nrm_lt a
  have hm : iabs (nrm a) = max (nrm a) (-nrm a) := by unfold iabs; split <;> omega
  have e : cs a = sn (102944 - max (nrm a) (-nrm a)) := by unfold cs; rw [hm]
  rw [e]
  clear e hm
  go_enter Try.func90, Try.ntmps90
  go_wp2_with (first
    | (go_at_call 99; refine (nrm_p _ _).mono ?_; rintro e w' ⟨rfl, rfl⟩)
    | (go_at_call 91; refine (sin_p _ _).mono ?_; rintro e w1 ⟨rfl, hw1⟩))
  go_ret
  exact ⟨rfl, by assumption⟩

end Go.Proofs.Ytpdhfhcfjdnlpaa

set_option linter.unusedVariables false
namespace Go.Proofs.Ytpdhfhcfjdnlpaa
open Go.RowKit Fx

theorem nrm_b (a : Int) (w : World) : Calls Try.prog 99 #[.int .i64 a] w fun e w' => e = .returned (.int .i64 (nrm a)) ∧ Below w.heap.size w w' := bl_of_same (nrm_p a w)

theorem sin_b (a : Int) (w : World) : Calls Try.prog 91 #[.int .i64 a] w fun e w' => e = .returned (.int .i64 (sn a)) ∧ Below w.heap.size w w' := bl_of_dr (sin_p a w)

theorem cos_b (a : Int) (w : World) : Calls Try.prog 90 #[.int .i64 a] w fun e w' => e = .returned (.int .i64 (cs a)) ∧ Below w.heap.size w w' := bl_of_dr (cos_p a w)

theorem rot_b (a : Int) (w : World) : Calls Try.prog 78 #[.int .i64 a] w fun e w' => e = .returned (.agg #[.int .i64 (rotc a), .int .i64 (rots a)]) ∧ Below w.heap.size w w' := by
  have h1 := cs_ge a; have h2 := cs_le a; have h3 := sn_ge a; have h4 := sn_le a
  have c1 := mul_between h1 h2 h1 h2
  have s1 := mul_between h3 h4 h3 h4
  go_enter Try.func78, Try.ntmps78
  go_wp2_with (first | (go_at_call 90; refine Calls.mono (gw_at (cos_b _ _)) ?_; rintro e w1 ⟨rfl, q, rfl⟩) | (go_at_call 91; refine Calls.mono (gw_at (sin_b _ _)) ?_; rintro e w1 ⟨rfl, q, rfl⟩) | (go_at_call 22; refine Calls.mono (gw_at (isq_b _ _)) ?_; rintro e w1 ⟨rfl, q, rfl⟩) | (go_at_call 36; refine Calls.mono (gw_at (div_b _ _ _)) ?_; rintro e w1 ⟨rfl, q, rfl⟩))
  exact bodyPost_ret (v := .agg #[.int .i64 (rotc a), .int .i64 (rots a)]) (by simp [results, Try.results78, go_sem]; try (first | with_reducible rfl | exact ⟨rfl, rfl⟩ | exact ⟨rfl, rfl, rfl⟩ | exact ⟨rfl, rfl, rfl, rfl⟩ | exact ⟨rfl, rfl, rfl, rfl, rfl⟩ | exact ⟨rfl, rfl, rfl, rfl, rfl, rfl⟩ | rfl)) rfl ⟨rfl, bBel⟩

end Go.Proofs.Ytpdhfhcfjdnlpaa

set_option linter.unusedVariables false
namespace Go.Proofs.Ytpdhfhcfjdnlpaa
open Go.RowKit Fx

theorem tapp_b (px py a vx vy : Int) (w : World) : Calls Try.prog 60 #[.agg #[.int .i64 px, .int .i64 py, .int .i64 a], .agg #[.int .i64 vx, .int .i64 vy]] w fun e w' => e = .returned (.agg #[.int .i64 (tpx px a vx vy), .int .i64 (tpy py a vx vy)]) ∧ Below w.heap.size w w' := by
  go_enter Try.func60, Try.ntmps60
  go_wp2_with (first | (go_at_call 78; refine Calls.mono (gw_at (rot_b _ _)) ?_; rintro e w1 ⟨rfl, q, rfl⟩) | (go_at_call 77; refine Calls.mono (gw_at (vrot_b _ _ _ _ _)) ?_; rintro e w1 ⟨rfl, q, rfl⟩) | (go_at_call 63; refine Calls.mono (gw_at (vadd_b _ _ _ _ _)) ?_; rintro e w1 ⟨rfl, q, rfl⟩))
  repeat
    refine wp_region_gw_tail 8 (by kernel_rfl) (by kernel_rfl) ?_
    simp only [List.take_succ_cons, List.take_zero, List.drop_succ_cons, List.drop_zero]
    repeat (go_big_quiet_step ((first | (go_at_call 78; exact gw_call (rot_b _ _)) | (go_at_call 77; exact gw_call (vrot_b _ _ _ _ _)) | (go_at_call 63; exact gw_call (vadd_b _ _ _ _ _)))))
    refine wpQuiet_nil ?_
    intro w1 hw1
    obtain ⟨q, rfl⟩ := hw1
    go_wp2_with (first | (go_at_call 78; refine Calls.mono (gw_at (rot_b _ _)) ?_; rintro e w1 ⟨rfl, q, rfl⟩) | (go_at_call 77; refine Calls.mono (gw_at (vrot_b _ _ _ _ _)) ?_; rintro e w1 ⟨rfl, q, rfl⟩) | (go_at_call 63; refine Calls.mono (gw_at (vadd_b _ _ _ _ _)) ?_; rintro e w1 ⟨rfl, q, rfl⟩))
  exact bodyPost_ret (v := .agg #[.int .i64 (tpx px a vx vy), .int .i64 (tpy py a vx vy)]) (by simp [results, Try.results60, go_sem]; try (first | with_reducible rfl | exact ⟨rfl, rfl⟩ | exact ⟨rfl, rfl, rfl⟩ | exact ⟨rfl, rfl, rfl, rfl⟩ | exact ⟨rfl, rfl, rfl, rfl, rfl⟩ | exact ⟨rfl, rfl, rfl, rfl, rfl, rfl⟩ | rfl)) rfl ⟨rfl, bBel⟩

end Go.Proofs.Ytpdhfhcfjdnlpaa
