/- Contracts of the reference's outOfRange and RoundDiv: RoundDiv returns rdiv n d, whatever n and d are, and leaves the world as it is up to draws. No conditions. -/
import Derived.Test.YtconfbdnhalmoaaFixB
namespace Go.Proofs.Ytconfbdnhalmoaa
open Go.RowKit Fx

theorem oor_yes (n : Int) (w : World) (h : n < -4611686018427387904 ∨ 4611686018427387904 < n) : Calls Try.prog 50 #[.int .i64 n] w fun e w' => e = .returned (.bool true) ∧ w = w' := by
  by_cases h1 : 4611686018427387904 < n
  · clear h
    go_enter Try.func50, Try.ntmps50
    go_wp2
    go_ret
    exact ⟨rfl, rfl⟩
  · have h2 : n < -4611686018427387904 := by omega
    clear h
    go_enter Try.func50, Try.ntmps50
    go_wp2
    go_ret
    exact ⟨ret_bool (by simp <;> omega), rfl⟩

theorem oor_no (n : Int) (w : World) (h1 : -4611686018427387904 ≤ n) (h2 : n ≤ 4611686018427387904) : Calls Try.prog 50 #[.int .i64 n] w fun e w' => e = .returned (.bool false) ∧ w = w' := by
  go_enter Try.func50, Try.ntmps50
  go_wp2
  go_ret
  exact ⟨ret_bool (by simp <;> omega), rfl⟩

theorem rrd_out (n d : Int) (w : World) (h : d < 1 ∨ 4611686018427387904 < d ∨ n < -4611686018427387904 ∨ 4611686018427387904 < n) : Calls Try.prog 51 #[.int .i64 n, .int .i64 d] w fun e w' => e = .returned (.int .i64 0) ∧ Dr w w' := by
  by_cases h1 : d < 1
  · clear h
    go_enter Try.func51, Try.ntmps51
    go_wp2_with fail
    go_ret
    exact ⟨rfl, Dr.refl _⟩
  · by_cases h2 : 4611686018427387904 < d
    · clear h
      go_enter Try.func51, Try.ntmps51
      go_wp2_with (go_at_call 50; refine (oor_yes _ _ (by omega)).mono ?_; rintro e w' ⟨rfl, rfl⟩)
      go_ret
      exact ⟨rfl, Dr.refl _⟩
    · have h3 : n < -4611686018427387904 ∨ 4611686018427387904 < n := by omega
      have H3 := Lib.hid h3
      clear h h3
      go_enter Try.func51, Try.ntmps51
      go_wp2_with fail
      refine (oor_no _ _ (by omega) (by omega)).mono ?_
      rintro e w' ⟨rfl, rfl⟩
      go_wp2_with fail
      refine (oor_yes _ _ H3.out).mono ?_
      rintro e w' ⟨rfl, rfl⟩
      go_wp2_with fail
      go_ret
      exact ⟨rfl, Dr.refl _⟩

theorem rrd_pos (n d : Int) (w : World) (h1 : 1 ≤ d) (h2 : d ≤ 4611686018427387904) (h3 : 0 ≤ n) (h4 : n ≤ 4611686018427387904) : Calls Try.prog 51 #[.int .i64 n, .int .i64 d] w fun e w' => e = .returned (.int .i64 (rcore n d)) ∧ Dr w w' := by
  have he := euclid n d h1
  have hb := ediv_bounds h3 h1
  have q1 : 0 ≤ n / d * d := Int.mul_nonneg hb.1 (by omega)
  have q2 : n / d * d ≤ n := by omega
  have He := Lib.hid he
  have hn : ¬ n < 0 := by omega
  by_cases hc : d - (n - n / d * d) ≤ n - n / d * d
  · clear he
    go_enter Try.func51, Try.ntmps51
    go_wp2_with (go_at_call 50; refine (oor_no _ _ (by omega) (by omega)).mono ?_; rintro e w' ⟨rfl, rfl⟩)
    go_ret
    have hd := He.out
    exact ⟨ret_int (rcore_up h3 (by omega)).symm, Dr.refl _⟩
  · clear he
    go_enter Try.func51, Try.ntmps51
    go_wp2_with (go_at_call 50; refine (oor_no _ _ (by omega) (by omega)).mono ?_; rintro e w' ⟨rfl, rfl⟩)
    go_ret
    have hd := He.out
    exact ⟨ret_int (rcore_down h3 (by omega)).symm, Dr.refl _⟩

theorem rrd_neg (m d : Int) (w : World) (h1 : 1 ≤ d) (h2 : d ≤ 4611686018427387904) (h3 : 0 < m) (h4 : m ≤ 4611686018427387904) : Calls Try.prog 51 #[.int .i64 (-m), .int .i64 d] w fun e w' => e = .returned (.int .i64 (rcore (-m) d)) ∧ Dr w w' := by
  have h3' : 0 ≤ m := by omega
  have he := euclid m d h1
  have hb := ediv_bounds h3' h1
  have q1 : 0 ≤ m / d * d := Int.mul_nonneg hb.1 (by omega)
  have q2 : m / d * d ≤ m := by omega
  have He := Lib.hid he
  by_cases hc : d - (m - m / d * d) ≤ m - m / d * d
  · clear he
    go_enter Try.func51, Try.ntmps51
    go_wp2_with (go_at_call 50; refine (oor_no _ _ (by omega) (by omega)).mono ?_; rintro e w' ⟨rfl, rfl⟩)
    go_ret
    have hd := He.out
    exact ⟨ret_int (by rw [rcore_nup (by omega) (by rw [Int.neg_neg]; omega), Int.neg_neg]), Dr.refl _⟩
  · clear he
    go_enter Try.func51, Try.ntmps51
    go_wp2_with (go_at_call 50; refine (oor_no _ _ (by omega) (by omega)).mono ?_; rintro e w' ⟨rfl, rfl⟩)
    go_ret
    have hd := He.out
    exact ⟨ret_int (by rw [rcore_ndown (by omega) (by rw [Int.neg_neg]; omega), Int.neg_neg]), Dr.refl _⟩

theorem rrd_p (n d : Int) (w : World) : Calls Try.prog 51 #[.int .i64 n, .int .i64 d] w fun e w' => e = .returned (.int .i64 (rdiv n d)) ∧ Dr w w' := by
  by_cases h : d < 1 ∨ 4611686018427387904 < d ∨ n < -4611686018427387904 ∨ 4611686018427387904 < n
  · rw [rdiv_out h]; exact rrd_out n d w h
  · rw [rdiv_in (by omega) (by omega) (by omega) (by omega)]
    by_cases h3 : 0 ≤ n
    · exact rrd_pos n d w (by omega) (by omega) h3 (by omega)
    · obtain ⟨m, rfl⟩ : ∃ m, n = -m := ⟨-n, by omega⟩
      exact rrd_neg m d w (by omega) (by omega) (by omega) (by omega)

end Go.Proofs.Ytconfbdnhalmoaa
