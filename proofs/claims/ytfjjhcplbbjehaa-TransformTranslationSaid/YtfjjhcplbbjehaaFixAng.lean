/- Contracts of package angle and of its reference: each function returns the number (or the rotation) that the Lean function of the same meaning gives, and nothing that existed has changed. No conditions. -/
import Derived.Test.YtfjjhcplbbjehaaFixD
import Derived.Test.YtfjjhcplbbjehaaFixF
import Derived.Test.YtfjjhcplbbjehaaAng
set_option linter.unusedVariables false
namespace Go.Proofs.Ytfjjhcplbbjehaa
open Go.RowKit Fx

theorem nrm_p (a : Int) (w : World) : Calls Try.prog 36 #[.int .i64 a] w fun e w' => e = .returned (.int .i64 (nrm a)) ∧ w = w' := by
  have h1 := tmod_ge a; have h2 := tmod_le a
  by_cases h : 205888 ≤ a.tmod 411776
  · go_enter Try.func36, Try.ntmps36
    go_wp2
    go_ret
    exact ⟨ret_int (nrm_hi h).symm, rfl⟩
  · by_cases h3 : a.tmod 411776 < -205888
    · go_enter Try.func36, Try.ntmps36
      go_wp2
      go_ret
      exact ⟨ret_int (nrm_lo h3).symm, rfl⟩
    · go_enter Try.func36, Try.ntmps36
      go_wp2
      go_ret
      exact ⟨ret_int (nrm_in (by omega) (by omega)).symm, rfl⟩

theorem rnrm_p (a : Int) (w : World) : Calls Try.prog 37 #[.int .i64 a] w fun e w' => e = .returned (.int .i64 (nrm a)) ∧ w = w' := by
  have h1 := tmod_ge a; have h2 := tmod_le a
  by_cases h : 205888 ≤ a.tmod 411776
  · go_enter Try.func37, Try.ntmps37
    go_wp2
    go_ret
    exact ⟨ret_int (nrm_hi h).symm, rfl⟩
  · by_cases h3 : a.tmod 411776 < -205888
    · go_enter Try.func37, Try.ntmps37
      go_wp2
      go_ret
      exact ⟨ret_int (nrm_lo h3).symm, rfl⟩
    · go_enter Try.func37, Try.ntmps37
      go_wp2
      go_ret
      exact ⟨ret_int (nrm_in (by omega) (by omega)).symm, rfl⟩

theorem rabs_p (x : Int) (w : World) (h1 : -4611686018427387904 ≤ x) : Calls Try.prog 73 #[.int .i64 x] w fun e w' => e = .returned (.int .i64 (iabs x)) ∧ w = w' := by
  by_cases h : x < 0
  · go_enter Try.func73, Try.ntmps73
    go_wp2
    go_ret
    exact ⟨ret_int (iabs_neg h).symm, rfl⟩
  · go_enter Try.func73, Try.ntmps73
    go_wp2
    go_ret
    exact ⟨ret_int (iabs_pos (by omega)).symm, rfl⟩

theorem hts_p (m : Int) (w : World) (h1 : 0 ≤ m) (h2 : m ≤ 205888) : Calls Try.prog 69 #[.int .i64 m] w fun e w' => e = .returned (.int .i64 (poly (fold m))) ∧ Dr w w' := by
  go_enter Try.func69, Try.ntmps69
  go_wp2_with (first
    | (go_at_call 54; refine (div_p _ _ _).mono ?_; rintro e w1 ⟨rfl, hw1⟩)
    | (go_at_call 66; refine (mul_p _ _ _).mono ?_; rintro e w2 ⟨rfl, hw2⟩)
    | (go_at_call 47; refine (sub_p _ _ _).mono ?_; rintro e w' ⟨rfl, rfl⟩))
  go_ret
  exact ⟨rfl, by repeat (first | exact Dr.refl _ | assumption | refine Dr.trans ?_ (by assumption))⟩

theorem rfq_p (x : Int) (w : World) : Calls Try.prog 74 #[.int .i64 x] w fun e w' => e = .returned (.int .i64 (poly x)) ∧ Dr w w' := by
  go_enter Try.func74, Try.ntmps74
  go_wp2_with (first
    | (go_at_call 62; refine (rdiv_p _ _ _).mono ?_; rintro e w1 ⟨rfl, hw1⟩)
    | (go_at_call 41; refine (rmul_p _ _ _).mono ?_; rintro e w2 ⟨rfl, hw2⟩)
    | (go_at_call 63; refine (rsub_p _ _ _).mono ?_; rintro e w' ⟨rfl, rfl⟩))
  go_ret
  exact ⟨rfl, by repeat (first | exact Dr.refl _ | assumption | refine Dr.trans ?_ (by assumption))⟩

theorem sin_p (a : Int) (w : World) : Calls Try.prog 52 #[.int .i64 a] w fun e w' => e = .returned (.int .i64 (sn a)) ∧ Dr w w' := by
  have h1 := nrm_ge a; have h2 := nrm_lt a
  by_cases h : nrm a < 0
  · have p1 := poly_ge (fold (-nrm a)); have p2 := poly_le (fold (-nrm a))
    rw [sn_neg h, iabs_neg h]
    go_enter Try.func52, Try.ntmps52
    go_wp2_with (first
      | (go_at_call 36; refine (nrm_p _ _).mono ?_; rintro e w' ⟨rfl, rfl⟩)
      | (go_at_call 69; refine (hts_p _ _ (by omega) (by omega)).mono ?_; rintro e w1 ⟨rfl, hw1⟩))
    go_ret
    exact ⟨rfl, by assumption⟩
  · rw [sn_pos h, iabs_pos (by omega)]
    go_enter Try.func52, Try.ntmps52
    go_wp2_with (first
      | (go_at_call 36; refine (nrm_p _ _).mono ?_; rintro e w' ⟨rfl, rfl⟩)
      | (go_at_call 69; refine (hts_p _ _ (by omega) (by omega)).mono ?_; rintro e w1 ⟨rfl, hw1⟩))
    go_ret
    exact ⟨rfl, by assumption⟩

theorem rsin_p (a : Int) (w : World) : Calls Try.prog 60 #[.int .i64 a] w fun e w' => e = .returned (.int .i64 (sn a)) ∧ Dr w w' := by
  have h1 := nrm_ge a; have h2 := nrm_lt a
  have i1 := iabs_ge (nrm a); have i2 := iabs_nrm_le a
  have p1 := poly_ge (fold (iabs (nrm a))); have p2 := poly_le (fold (iabs (nrm a)))
  by_cases h : nrm a < 0
  · rw [sn_neg h]
    by_cases k : 102944 < iabs (nrm a)
    · rw [fold_gt k] at *
      go_enter Try.func60, Try.ntmps60
      go_wp2_with (first
        | (go_at_call 37; refine (rnrm_p _ _).mono ?_; rintro e w' ⟨rfl, rfl⟩)
        | (go_at_call 73; refine (rabs_p _ _ (by omega)).mono ?_; rintro e w' ⟨rfl, rfl⟩)
        | (go_at_call 74; refine (rfq_p _ _).mono ?_; rintro e w1 ⟨rfl, hw1⟩))
      go_ret
      exact ⟨rfl, by assumption⟩
    · rw [fold_le (by omega)] at *
      go_enter Try.func60, Try.ntmps60
      go_wp2_with (first
        | (go_at_call 37; refine (rnrm_p _ _).mono ?_; rintro e w' ⟨rfl, rfl⟩)
        | (go_at_call 73; refine (rabs_p _ _ (by omega)).mono ?_; rintro e w' ⟨rfl, rfl⟩)
        | (go_at_call 74; refine (rfq_p _ _).mono ?_; rintro e w1 ⟨rfl, hw1⟩))
      go_ret
      exact ⟨rfl, by assumption⟩
  · rw [sn_pos h]
    by_cases k : 102944 < iabs (nrm a)
    · rw [fold_gt k] at *
      go_enter Try.func60, Try.ntmps60
      go_wp2_with (first
        | (go_at_call 37; refine (rnrm_p _ _).mono ?_; rintro e w' ⟨rfl, rfl⟩)
        | (go_at_call 73; refine (rabs_p _ _ (by omega)).mono ?_; rintro e w' ⟨rfl, rfl⟩)
        | (go_at_call 74; refine (rfq_p _ _).mono ?_; rintro e w1 ⟨rfl, hw1⟩))
      go_ret
      exact ⟨rfl, by assumption⟩
    · rw [fold_le (by omega)] at *
      go_enter Try.func60, Try.ntmps60
      go_wp2_with (first
        | (go_at_call 37; refine (rnrm_p _ _).mono ?_; rintro e w' ⟨rfl, rfl⟩)
        | (go_at_call 73; refine (rabs_p _ _ (by omega)).mono ?_; rintro e w' ⟨rfl, rfl⟩)
        | (go_at_call 74; refine (rfq_p _ _).mono ?_; rintro e w1 ⟨rfl, hw1⟩))
      go_ret
      exact ⟨rfl, by assumption⟩

theorem cos_p (a : Int) (w : World) : Calls Try.prog 51 #[.int .i64 a] w fun e w' => e = .returned (.int .i64 (cs a)) ∧ Dr w w' := by
  have h1 := nrm_ge a; have h2 := nrm_lt a
  have hm : iabs (nrm a) = max (nrm a) (-nrm a) := by unfold iabs; split <;> omega
  have e : cs a = sn (102944 - max (nrm a) (-nrm a)) := by unfold cs; rw [hm]
  rw [e]
  clear e hm
  go_enter Try.func51, Try.ntmps51
  go_wp2_with (first
    | (go_at_call 36; refine (nrm_p _ _).mono ?_; rintro e w' ⟨rfl, rfl⟩)
    | (go_at_call 52; refine (sin_p _ _).mono ?_; rintro e w1 ⟨rfl, hw1⟩))
  go_ret
  exact ⟨rfl, by assumption⟩

theorem rcos_p (a : Int) (w : World) : Calls Try.prog 59 #[.int .i64 a] w fun e w' => e = .returned (.int .i64 (cs a)) ∧ Dr w w' := by
  have h1 := nrm_ge a; have h2 := nrm_lt a
  have i1 := iabs_ge (nrm a); have i2 := iabs_nrm_le a
  go_enter Try.func59, Try.ntmps59
  go_wp2_with (first
    | (go_at_call 37; refine (rnrm_p _ _).mono ?_; rintro e w' ⟨rfl, rfl⟩)
    | (go_at_call 73; refine (rabs_p _ _ (by omega)).mono ?_; rintro e w' ⟨rfl, rfl⟩)
    | (go_at_call 60; refine (rsin_p _ _).mono ?_; rintro e w1 ⟨rfl, hw1⟩))
  go_ret
  exact ⟨rfl, by assumption⟩

theorem dif_p (a b : Int) (w : World) : Calls Try.prog 40 #[.int .i64 a, .int .i64 b] w fun e w' => e = .returned (.int .i64 (dif a b)) ∧ w = w' := by
  have h1 := nrm_ge a; have h2 := nrm_lt a; have h3 := nrm_ge b; have h4 := nrm_lt b
  go_enter Try.func40, Try.ntmps40
  go_wp2_with (go_at_call 36; refine (nrm_p _ _).mono ?_; rintro e w' ⟨rfl, rfl⟩)
  go_ret
  exact ⟨rfl, rfl⟩

theorem rdif_p (a b : Int) (w : World) : Calls Try.prog 42 #[.int .i64 a, .int .i64 b] w fun e w' => e = .returned (.int .i64 (dif a b)) ∧ w = w' := by
  have h1 := nrm_ge a; have h2 := nrm_lt a; have h3 := nrm_ge b; have h4 := nrm_lt b
  go_enter Try.func42, Try.ntmps42
  go_wp2_with (go_at_call 37; refine (rnrm_p _ _).mono ?_; rintro e w' ⟨rfl, rfl⟩)
  go_ret
  exact ⟨rfl, rfl⟩

end Go.Proofs.Ytfjjhcplbbjehaa
