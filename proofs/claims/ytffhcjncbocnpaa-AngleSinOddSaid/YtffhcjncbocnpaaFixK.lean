/- The contract of chapter 2's examples, and the walks of its six statements: each returns true for every input, and nothing that existed has changed. No conditions. -/
import Derived.Test.YtffhcjncbocnpaaFixRot
import Derived.Test.YtffhcjncbocnpaaAngU
import Derived.OpenShut
set_option linter.unusedVariables false
namespace Go.Proofs.Ytffhcjncbocnpaa
open Go.RowKit Go.ChangeShapes Go.WideShapes Fx

theorem ex2_sin (w : World) : Calls Try.prog 11 #[.int .i64 102944] w fun e w' => e = .returned (.int .i64 65536) ∧ Dr w w' := by
  have h : sn 102944 = 65536 := by decide +kernel
  rw [← h]; exact sin_p _ _

theorem ex2_cos (w : World) : Calls Try.prog 13 #[.int .i64 0] w fun e w' => e = .returned (.int .i64 65536) ∧ Dr w w' := by
  have h : cs 0 = 65536 := by decide +kernel
  rw [← h]; exact cos_p _ _

theorem ex2_nrm (w : World) : Calls Try.prog 9 #[.int .i64 205888] w fun e w' => e = .returned (.int .i64 (-205888)) ∧ w = w' := by
  have h : nrm 205888 = -205888 := by decide +kernel
  rw [← h]; exact nrm_p _ _

theorem ex2_dif (w : World) : Calls Try.prog 17 #[.int .i64 102944, .int .i64 205888] w fun e w' => e = .returned (.int .i64 102944) ∧ w = w' := by
  have h : dif 102944 205888 = 102944 := by decide +kernel
  rw [← h]; exact dif_p _ _ _

theorem rlen_half : rlen 102944 = 65536 := by
  have h1 : cs 102944 = 0 := by decide +kernel
  have h2 : sn 102944 = 65536 := by decide +kernel
  unfold rlen; rw [h1, h2]; exact isq_eq (by omega) (by omega) (by omega) (by omega) (by omega)
theorem rot_half : rotc 102944 = 0 ∧ rots 102944 = 65536 := by
  have h1 : cs 102944 = 0 := by decide +kernel
  have h2 : sn 102944 = 65536 := by decide +kernel
  unfold rotc rots; rw [h1, h2, rlen_half]; decide +kernel

theorem ex2_rot (w : World) : Calls Try.prog 15 #[.int .i64 102944] w fun e w' => e = .returned (.agg #[.int .i64 0, .int .i64 65536]) ∧ Grown w w' := by
  have h := rot_p 102944 w
  rw [rot_half.1, rot_half.2] at h; exact h

theorem example2_p (w : World) : Calls Try.prog 19 #[] w fun e w' => e = .returned (.bool true) ∧ Grown w w' := by
  go_enter Try.func19, Try.ntmps19
  go_wp2_with (first
    | (go_at_call 11; refine (ex2_sin _).mono ?_; rintro e w1 ⟨rfl, m1, rfl⟩)
    | (go_at_call 13; refine (ex2_cos _).mono ?_; rintro e w1 ⟨rfl, m2, rfl⟩)
    | (go_at_call 9; refine (ex2_nrm _).mono ?_; rintro e w1 ⟨rfl, rfl⟩)
    | (go_at_call 17; refine (ex2_dif _).mono ?_; rintro e w1 ⟨rfl, rfl⟩)
    | (go_at_call 15; refine (ex2_rot _).mono ?_; rintro e w1 ⟨rfl, hg⟩))
  go_ret
  exact ⟨rfl, by repeat (first | exact Grown.refl _ | assumption | refine Gd ?_ _ | refine Grown.alloc ?_ _ _ | refine Gt ?_ (by assumption))⟩

theorem walk_AngleSinCos (a b : Int) (w : World) : Calls Try.prog 3 #[.int .i64 a, .int .i64 b] w fun e w' => e = .returned (.bool true) ∧ Grown w w' := by
  go_enter Try.func3, Try.ntmps3
  go_wp2_with (first
    | (go_at_call 9; refine (nrm_p _ _).mono ?_; rintro e w1 ⟨rfl, rfl⟩)
    | (go_at_call 11; refine (sin_p _ _).mono ?_; rintro e w1 ⟨rfl, m1, rfl⟩)
    | (go_at_call 13; refine (cos_p _ _).mono ?_; rintro e w1 ⟨rfl, m2, rfl⟩)
    | (go_at_call 15; refine (rot_p _ _).mono ?_; rintro e w1 ⟨rfl, hg⟩)
    | (go_at_call 17; refine (dif_p _ _ _).mono ?_; rintro e w1 ⟨rfl, rfl⟩)
    | (go_at_call 10; refine (rnrm_p _ _).mono ?_; rintro e w1 ⟨rfl, rfl⟩)
    | (go_at_call 12; refine (rsin_p _ _).mono ?_; rintro e w1 ⟨rfl, m3, rfl⟩)
    | (go_at_call 14; refine (rcos_p _ _).mono ?_; rintro e w1 ⟨rfl, m4, rfl⟩)
    | (go_at_call 16; refine (rrot_p _ _).mono ?_; rintro e w1 ⟨rfl, hh⟩)
    | (go_at_call 18; refine (rdif_p _ _ _).mono ?_; rintro e w1 ⟨rfl, rfl⟩)
    | (go_at_call 19; refine (example2_p _).mono ?_; rintro e w1 ⟨rfl, hx⟩))
  go_ret
  exact ⟨rfl, by repeat (first | exact Grown.refl _ | assumption | refine Gd ?_ _ | refine Grown.alloc ?_ _ _ | refine Gt ?_ (by assumption))⟩

theorem walk_AngleNormalizeRange (a : Int) (w : World) : Calls Try.prog 4 #[.int .i64 a] w fun e w' => e = .returned (.bool true) ∧ Grown w w' := by
  have h1 := nrm_ge a; have h2 := nrm_lt a
  have t1 := tmod_ge a; have t2 := tmod_le a; have t3 := tmod_ge (nrm a); have t4 := tmod_le (nrm a)
  have h3 : (((nrm a).tmod 411776 - a.tmod 411776).tmod 411776 == 0) = true := by rw [beq_iff_eq]; exact nrm_mod a
  have h4 : (nrm (nrm a) == nrm a) = true := by rw [beq_iff_eq]; exact nrm_nrm a
  go_enter Try.func4, Try.ntmps4
  go_wp2_with (first
    | (go_at_call 9; refine (nrm_p _ _).mono ?_; rintro e w1 ⟨rfl, rfl⟩)
    | (go_at_call 11; refine (sin_p _ _).mono ?_; rintro e w1 ⟨rfl, m1, rfl⟩)
    | (go_at_call 13; refine (cos_p _ _).mono ?_; rintro e w1 ⟨rfl, m2, rfl⟩)
    | (go_at_call 15; refine (rot_p _ _).mono ?_; rintro e w1 ⟨rfl, hg⟩)
    | (go_at_call 17; refine (dif_p _ _ _).mono ?_; rintro e w1 ⟨rfl, rfl⟩)
    | (go_at_call 10; refine (rnrm_p _ _).mono ?_; rintro e w1 ⟨rfl, rfl⟩)
    | (go_at_call 12; refine (rsin_p _ _).mono ?_; rintro e w1 ⟨rfl, m3, rfl⟩)
    | (go_at_call 14; refine (rcos_p _ _).mono ?_; rintro e w1 ⟨rfl, m4, rfl⟩)
    | (go_at_call 16; refine (rrot_p _ _).mono ?_; rintro e w1 ⟨rfl, hh⟩)
    | (go_at_call 18; refine (rdif_p _ _ _).mono ?_; rintro e w1 ⟨rfl, rfl⟩)
    | (go_at_call 19; refine (example2_p _).mono ?_; rintro e w1 ⟨rfl, hx⟩))
  go_ret
  exact ⟨rfl, by repeat (first | exact Grown.refl _ | assumption | refine Gd ?_ _ | refine Grown.alloc ?_ _ _ | refine Gt ?_ (by assumption))⟩

theorem walk_AngleDiffAdds (a b : Int) (w : World) : Calls Try.prog 5 #[.int .i64 a, .int .i64 b] w fun e w' => e = .returned (.bool true) ∧ Grown w w' := by
  have h1 := nrm_ge a; have h2 := nrm_lt a; have h3 := dif_ge a b; have h4 := dif_lt a b
  have h5 : (nrm (nrm a + dif a b) == nrm b) = true := by rw [beq_iff_eq]; exact dif_add a b
  have h6 : (dif a a == 0) = true := by rw [beq_iff_eq]; exact dif_self a
  by_cases r : dif b a = -dif a b
  · have r1 : (dif b a == -dif a b) = true := by rw [beq_iff_eq]; exact r
    clear r
    go_enter Try.func5, Try.ntmps5
    go_wp2_with (first
      | (go_at_call 9; refine (nrm_p _ _).mono ?_; rintro e w1 ⟨rfl, rfl⟩)
      | (go_at_call 11; refine (sin_p _ _).mono ?_; rintro e w1 ⟨rfl, m1, rfl⟩)
      | (go_at_call 13; refine (cos_p _ _).mono ?_; rintro e w1 ⟨rfl, m2, rfl⟩)
      | (go_at_call 15; refine (rot_p _ _).mono ?_; rintro e w1 ⟨rfl, hg⟩)
      | (go_at_call 17; refine (dif_p _ _ _).mono ?_; rintro e w1 ⟨rfl, rfl⟩)
      | (go_at_call 10; refine (rnrm_p _ _).mono ?_; rintro e w1 ⟨rfl, rfl⟩)
      | (go_at_call 12; refine (rsin_p _ _).mono ?_; rintro e w1 ⟨rfl, m3, rfl⟩)
      | (go_at_call 14; refine (rcos_p _ _).mono ?_; rintro e w1 ⟨rfl, m4, rfl⟩)
      | (go_at_call 16; refine (rrot_p _ _).mono ?_; rintro e w1 ⟨rfl, hh⟩)
      | (go_at_call 18; refine (rdif_p _ _ _).mono ?_; rintro e w1 ⟨rfl, rfl⟩)
      | (go_at_call 19; refine (example2_p _).mono ?_; rintro e w1 ⟨rfl, hx⟩))
    go_ret
    exact ⟨rfl, by repeat (first | exact Grown.refl _ | assumption | refine Gd ?_ _ | refine Grown.alloc ?_ _ _ | refine Gt ?_ (by assumption))⟩
  · have r0 := (dif_rev a b).resolve_left r
    have r1 : (dif b a == -dif a b) = false := by rw [beq_eq_false_iff_ne]; exact r
    have r2 : (dif a b == -205888) = true := by rw [beq_iff_eq]; exact r0.1
    have r3 : (dif b a == dif a b) = true := by rw [beq_iff_eq]; exact r0.2
    clear r r0
    go_enter Try.func5, Try.ntmps5
    go_wp2_with (first
      | (go_at_call 9; refine (nrm_p _ _).mono ?_; rintro e w1 ⟨rfl, rfl⟩)
      | (go_at_call 11; refine (sin_p _ _).mono ?_; rintro e w1 ⟨rfl, m1, rfl⟩)
      | (go_at_call 13; refine (cos_p _ _).mono ?_; rintro e w1 ⟨rfl, m2, rfl⟩)
      | (go_at_call 15; refine (rot_p _ _).mono ?_; rintro e w1 ⟨rfl, hg⟩)
      | (go_at_call 17; refine (dif_p _ _ _).mono ?_; rintro e w1 ⟨rfl, rfl⟩)
      | (go_at_call 10; refine (rnrm_p _ _).mono ?_; rintro e w1 ⟨rfl, rfl⟩)
      | (go_at_call 12; refine (rsin_p _ _).mono ?_; rintro e w1 ⟨rfl, m3, rfl⟩)
      | (go_at_call 14; refine (rcos_p _ _).mono ?_; rintro e w1 ⟨rfl, m4, rfl⟩)
      | (go_at_call 16; refine (rrot_p _ _).mono ?_; rintro e w1 ⟨rfl, hh⟩)
      | (go_at_call 18; refine (rdif_p _ _ _).mono ?_; rintro e w1 ⟨rfl, rfl⟩)
      | (go_at_call 19; refine (example2_p _).mono ?_; rintro e w1 ⟨rfl, hx⟩))
    go_ret
    exact ⟨rfl, by repeat (first | exact Grown.refl _ | assumption | refine Gd ?_ _ | refine Grown.alloc ?_ _ _ | refine Gt ?_ (by assumption))⟩

theorem walk_AngleSinOdd (a : Int) (wf : (Lit.int .i64 a).wf = true) (w : World) : Calls Try.prog 6 #[.int .i64 a] w fun e w' => e = .returned (.bool true) ∧ Grown w w' := by
  have hb := bounds_i64 wf
  clear wf
  have s1 := sn_ge a; have s2 := sn_le a
  have h1 : (sn (-a) == -sn a) = true := by rw [beq_iff_eq]; exact sn_odd a
  have h2 : (cs (-a) == cs a) = true := by rw [beq_iff_eq]; exact cs_even a
  by_cases hm : a = -9223372036854775808
  · have hq : (a == -9223372036854775808) = true := by rw [beq_iff_eq]; exact hm
    clear hm
    go_enter Try.func6, Try.ntmps6
    go_wp2_with (first
      | (go_at_call 9; refine (nrm_p _ _).mono ?_; rintro e w1 ⟨rfl, rfl⟩)
      | (go_at_call 11; refine (sin_p _ _).mono ?_; rintro e w1 ⟨rfl, m1, rfl⟩)
      | (go_at_call 13; refine (cos_p _ _).mono ?_; rintro e w1 ⟨rfl, m2, rfl⟩)
      | (go_at_call 15; refine (rot_p _ _).mono ?_; rintro e w1 ⟨rfl, hg⟩)
      | (go_at_call 17; refine (dif_p _ _ _).mono ?_; rintro e w1 ⟨rfl, rfl⟩)
      | (go_at_call 10; refine (rnrm_p _ _).mono ?_; rintro e w1 ⟨rfl, rfl⟩)
      | (go_at_call 12; refine (rsin_p _ _).mono ?_; rintro e w1 ⟨rfl, m3, rfl⟩)
      | (go_at_call 14; refine (rcos_p _ _).mono ?_; rintro e w1 ⟨rfl, m4, rfl⟩)
      | (go_at_call 16; refine (rrot_p _ _).mono ?_; rintro e w1 ⟨rfl, hh⟩)
      | (go_at_call 18; refine (rdif_p _ _ _).mono ?_; rintro e w1 ⟨rfl, rfl⟩)
      | (go_at_call 19; refine (example2_p _).mono ?_; rintro e w1 ⟨rfl, hx⟩))
    go_ret
    exact ⟨rfl, by repeat (first | exact Grown.refl _ | assumption | refine Gd ?_ _ | refine Grown.alloc ?_ _ _ | refine Gt ?_ (by assumption))⟩
  · have hq : (a == -9223372036854775808) = false := by rw [beq_eq_false_iff_ne]; exact hm
    have hb1 : -9223372036854775808 < a := by omega
    clear hm
    go_enter Try.func6, Try.ntmps6
    go_wp2_with (first
      | (go_at_call 9; refine (nrm_p _ _).mono ?_; rintro e w1 ⟨rfl, rfl⟩)
      | (go_at_call 11; refine (sin_p _ _).mono ?_; rintro e w1 ⟨rfl, m1, rfl⟩)
      | (go_at_call 13; refine (cos_p _ _).mono ?_; rintro e w1 ⟨rfl, m2, rfl⟩)
      | (go_at_call 15; refine (rot_p _ _).mono ?_; rintro e w1 ⟨rfl, hg⟩)
      | (go_at_call 17; refine (dif_p _ _ _).mono ?_; rintro e w1 ⟨rfl, rfl⟩)
      | (go_at_call 10; refine (rnrm_p _ _).mono ?_; rintro e w1 ⟨rfl, rfl⟩)
      | (go_at_call 12; refine (rsin_p _ _).mono ?_; rintro e w1 ⟨rfl, m3, rfl⟩)
      | (go_at_call 14; refine (rcos_p _ _).mono ?_; rintro e w1 ⟨rfl, m4, rfl⟩)
      | (go_at_call 16; refine (rrot_p _ _).mono ?_; rintro e w1 ⟨rfl, hh⟩)
      | (go_at_call 18; refine (rdif_p _ _ _).mono ?_; rintro e w1 ⟨rfl, rfl⟩)
      | (go_at_call 19; refine (example2_p _).mono ?_; rintro e w1 ⟨rfl, hx⟩))
    go_ret
    exact ⟨rfl, by repeat (first | exact Grown.refl _ | assumption | refine Gd ?_ _ | refine Grown.alloc ?_ _ _ | refine Gt ?_ (by assumption))⟩

theorem walk_AnglePeriodic (a n : Int) (wf : (Lit.int .i8 n).wf = true) (w : World) : Calls Try.prog 7 #[.int .i64 a, .int .i8 n] w fun e w' => e = .returned (.bool true) ∧ Grown w w' := by
  have hb := bounds_i8 wf
  clear wf
  have h1 := nrm_ge a; have h2 := nrm_lt a
  by_cases ho : a < -4611686018427387904
  · go_enter Try.func7, Try.ntmps7
    go_wp2_with (first
      | (go_at_call 9; refine (nrm_p _ _).mono ?_; rintro e w1 ⟨rfl, rfl⟩)
      | (go_at_call 11; refine (sin_p _ _).mono ?_; rintro e w1 ⟨rfl, m1, rfl⟩)
      | (go_at_call 13; refine (cos_p _ _).mono ?_; rintro e w1 ⟨rfl, m2, rfl⟩)
      | (go_at_call 15; refine (rot_p _ _).mono ?_; rintro e w1 ⟨rfl, hg⟩)
      | (go_at_call 17; refine (dif_p _ _ _).mono ?_; rintro e w1 ⟨rfl, rfl⟩)
      | (go_at_call 10; refine (rnrm_p _ _).mono ?_; rintro e w1 ⟨rfl, rfl⟩)
      | (go_at_call 12; refine (rsin_p _ _).mono ?_; rintro e w1 ⟨rfl, m3, rfl⟩)
      | (go_at_call 14; refine (rcos_p _ _).mono ?_; rintro e w1 ⟨rfl, m4, rfl⟩)
      | (go_at_call 16; refine (rrot_p _ _).mono ?_; rintro e w1 ⟨rfl, hh⟩)
      | (go_at_call 18; refine (rdif_p _ _ _).mono ?_; rintro e w1 ⟨rfl, rfl⟩)
      | (go_at_call 19; refine (example2_p _).mono ?_; rintro e w1 ⟨rfl, hx⟩))
    go_ret
    exact ⟨rfl, by repeat (first | exact Grown.refl _ | assumption | refine Gd ?_ _ | refine Grown.alloc ?_ _ _ | refine Gt ?_ (by assumption))⟩
  · by_cases hp : 4611686018427387904 < a
    · go_enter Try.func7, Try.ntmps7
      go_wp2_with (first
        | (go_at_call 9; refine (nrm_p _ _).mono ?_; rintro e w1 ⟨rfl, rfl⟩)
        | (go_at_call 11; refine (sin_p _ _).mono ?_; rintro e w1 ⟨rfl, m1, rfl⟩)
        | (go_at_call 13; refine (cos_p _ _).mono ?_; rintro e w1 ⟨rfl, m2, rfl⟩)
        | (go_at_call 15; refine (rot_p _ _).mono ?_; rintro e w1 ⟨rfl, hg⟩)
        | (go_at_call 17; refine (dif_p _ _ _).mono ?_; rintro e w1 ⟨rfl, rfl⟩)
        | (go_at_call 10; refine (rnrm_p _ _).mono ?_; rintro e w1 ⟨rfl, rfl⟩)
        | (go_at_call 12; refine (rsin_p _ _).mono ?_; rintro e w1 ⟨rfl, m3, rfl⟩)
        | (go_at_call 14; refine (rcos_p _ _).mono ?_; rintro e w1 ⟨rfl, m4, rfl⟩)
        | (go_at_call 16; refine (rrot_p _ _).mono ?_; rintro e w1 ⟨rfl, hh⟩)
        | (go_at_call 18; refine (rdif_p _ _ _).mono ?_; rintro e w1 ⟨rfl, rfl⟩)
        | (go_at_call 19; refine (example2_p _).mono ?_; rintro e w1 ⟨rfl, hx⟩))
      go_ret
      exact ⟨rfl, by repeat (first | exact Grown.refl _ | assumption | refine Gd ?_ _ | refine Grown.alloc ?_ _ _ | refine Gt ?_ (by assumption))⟩
    · have e1 : (sn (a + n * 411776) == sn a) = true := by rw [beq_iff_eq]; exact sn_turn a n
      have e2 : (cs (a + n * 411776) == cs a) = true := by rw [beq_iff_eq]; exact cs_turn a n
      have e3 : (rotc (a + n * 411776) == rotc a) = true := by rw [beq_iff_eq]; exact rotc_turn a n
      have e4 : (rots (a + n * 411776) == rots a) = true := by rw [beq_iff_eq]; exact rots_turn a n
      have e5 : (dif a (a + n * 411776) == 0) = true := by rw [beq_iff_eq]; exact dif_turn a n
      by_cases hn : nrm a < 0
      · have e6 : (cs a == sn (102944 + nrm a)) = true := by rw [beq_iff_eq]; unfold cs; rw [iabs_neg hn, show (102944 : Int) - -nrm a = 102944 + nrm a from by omega]
        go_enter Try.func7, Try.ntmps7
        go_wp2_with (first
          | (go_at_call 9; refine (nrm_p _ _).mono ?_; rintro e w1 ⟨rfl, rfl⟩)
          | (go_at_call 11; refine (sin_p _ _).mono ?_; rintro e w1 ⟨rfl, m1, rfl⟩)
          | (go_at_call 13; refine (cos_p _ _).mono ?_; rintro e w1 ⟨rfl, m2, rfl⟩)
          | (go_at_call 15; refine (rot_p _ _).mono ?_; rintro e w1 ⟨rfl, hg⟩)
          | (go_at_call 17; refine (dif_p _ _ _).mono ?_; rintro e w1 ⟨rfl, rfl⟩)
          | (go_at_call 10; refine (rnrm_p _ _).mono ?_; rintro e w1 ⟨rfl, rfl⟩)
          | (go_at_call 12; refine (rsin_p _ _).mono ?_; rintro e w1 ⟨rfl, m3, rfl⟩)
          | (go_at_call 14; refine (rcos_p _ _).mono ?_; rintro e w1 ⟨rfl, m4, rfl⟩)
          | (go_at_call 16; refine (rrot_p _ _).mono ?_; rintro e w1 ⟨rfl, hh⟩)
          | (go_at_call 18; refine (rdif_p _ _ _).mono ?_; rintro e w1 ⟨rfl, rfl⟩)
          | (go_at_call 19; refine (example2_p _).mono ?_; rintro e w1 ⟨rfl, hx⟩))
        go_ret
        exact ⟨rfl, by repeat (first | exact Grown.refl _ | assumption | refine Gd ?_ _ | refine Grown.alloc ?_ _ _ | refine Gt ?_ (by assumption))⟩
      · have e6 : (cs a == sn (102944 - nrm a)) = true := by rw [beq_iff_eq]; unfold cs; rw [iabs_pos (by omega)]
        go_enter Try.func7, Try.ntmps7
        go_wp2_with (first
          | (go_at_call 9; refine (nrm_p _ _).mono ?_; rintro e w1 ⟨rfl, rfl⟩)
          | (go_at_call 11; refine (sin_p _ _).mono ?_; rintro e w1 ⟨rfl, m1, rfl⟩)
          | (go_at_call 13; refine (cos_p _ _).mono ?_; rintro e w1 ⟨rfl, m2, rfl⟩)
          | (go_at_call 15; refine (rot_p _ _).mono ?_; rintro e w1 ⟨rfl, hg⟩)
          | (go_at_call 17; refine (dif_p _ _ _).mono ?_; rintro e w1 ⟨rfl, rfl⟩)
          | (go_at_call 10; refine (rnrm_p _ _).mono ?_; rintro e w1 ⟨rfl, rfl⟩)
          | (go_at_call 12; refine (rsin_p _ _).mono ?_; rintro e w1 ⟨rfl, m3, rfl⟩)
          | (go_at_call 14; refine (rcos_p _ _).mono ?_; rintro e w1 ⟨rfl, m4, rfl⟩)
          | (go_at_call 16; refine (rrot_p _ _).mono ?_; rintro e w1 ⟨rfl, hh⟩)
          | (go_at_call 18; refine (rdif_p _ _ _).mono ?_; rintro e w1 ⟨rfl, rfl⟩)
          | (go_at_call 19; refine (example2_p _).mono ?_; rintro e w1 ⟨rfl, hx⟩))
        go_ret
        exact ⟨rfl, by repeat (first | exact Grown.refl _ | assumption | refine Gd ?_ _ | refine Grown.alloc ?_ _ _ | refine Gt ?_ (by assumption))⟩

theorem walk_AngleRotUnit (a : Int) (w : World) : Calls Try.prog 8 #[.int .i64 a] w fun e w' => e = .returned (.bool true) ∧ Grown w w' := by
  have h1 := rotc_ge a; have h2 := rotc_le a; have h3 := rots_ge a; have h4 := rots_le a
  have c1 := mul_between h1 h2 h1 h2
  have s1 := mul_between h3 h4 h3 h4
  have u1 := rot_unit_lo a
  have u2 := rot_unit_hi a
  go_enter Try.func8, Try.ntmps8
  go_wp2_with (first
    | (go_at_call 9; refine (nrm_p _ _).mono ?_; rintro e w1 ⟨rfl, rfl⟩)
    | (go_at_call 11; refine (sin_p _ _).mono ?_; rintro e w1 ⟨rfl, m1, rfl⟩)
    | (go_at_call 13; refine (cos_p _ _).mono ?_; rintro e w1 ⟨rfl, m2, rfl⟩)
    | (go_at_call 15; refine (rot_p _ _).mono ?_; rintro e w1 ⟨rfl, hg⟩)
    | (go_at_call 17; refine (dif_p _ _ _).mono ?_; rintro e w1 ⟨rfl, rfl⟩)
    | (go_at_call 10; refine (rnrm_p _ _).mono ?_; rintro e w1 ⟨rfl, rfl⟩)
    | (go_at_call 12; refine (rsin_p _ _).mono ?_; rintro e w1 ⟨rfl, m3, rfl⟩)
    | (go_at_call 14; refine (rcos_p _ _).mono ?_; rintro e w1 ⟨rfl, m4, rfl⟩)
    | (go_at_call 16; refine (rrot_p _ _).mono ?_; rintro e w1 ⟨rfl, hh⟩)
    | (go_at_call 18; refine (rdif_p _ _ _).mono ?_; rintro e w1 ⟨rfl, rfl⟩)
    | (go_at_call 19; refine (example2_p _).mono ?_; rintro e w1 ⟨rfl, hx⟩))
  go_ret
  exact ⟨rfl, by repeat (first | exact Grown.refl _ | assumption | refine Gd ?_ _ | refine Grown.alloc ?_ _ _ | refine Gt ?_ (by assumption))⟩

end Go.Proofs.Ytffhcjncbocnpaa
