/- Contracts of Saturate, Add, Sub, outOfRange, divByZero and Clamp, of the program and of the reference: each returns the number that the Lean function of the same meaning gives, and leaves the world as it is. No conditions.
Contracts of RoundDiv, of the program and of the reference: each returns rdiv n d, whatever n and d are, and leaves the world as it is up to draws. No conditions.
Contracts of the reference's outOfRange and RoundDiv: RoundDiv returns rdiv n d, whatever n and d are, and leaves the world as it is up to draws. No conditions.
Contracts of Mul, Div, Lerp, divByZero and Clamp, of the program and of the reference: each returns the number that the Lean function of the same meaning gives, and leaves the world as it is up to draws. No conditions.
The contract of math/bits.Len64 in this program: it returns the number of bits of x, and the world is as it was. The shelf's theorem, applied to this program's numbers.
Contracts of Ratio and Clamp, of the program and of the reference: each returns the number that the Lean function of the same meaning gives, and leaves the world as it is up to draws. No conditions.
Contracts of Isqrt and Sqrt, of the program and of the reference: each returns the integer square root isq (0 outside its range), and leaves the world as it is up to draws. No conditions. -/
import Derived.Test.YtaahgblkmajceaaGreatChecked
import Derived.Test.YtaahgblkmajceaaGreatMa1
import Derived.WalkKit
import Derived.Deep.QuietTactic
import Derived.BigQuiet
import Derived.Lib.Hide
import Derived.Shelf.Strconv.Itoa0
import Derived.KernelRfl

namespace Go.Proofs.YtaahgblkmajceaaGreat
open Go.RowKit Fx

theorem ret_int {k : IntKind} {a b : Int} (h : a = b) : Ending.returned (.int k a) = .returned (.int k b) := by rw [h]
theorem ret_bool {a b : Bool} (h : a = b) : Ending.returned (.bool a) = .returned (.bool b) := by rw [h]

theorem sat_p (a : Int) (w : World) : Calls Tryz.prog 125 #[.int .i64 a] w fun e w' => e = .returned (.int .i64 (sat a)) ∧ w = w' := by
  by_cases h : 536870911 < a
  · go_enter Tryz.func125, Tryz.ntmps125
    go_wp2
    go_ret
    exact ⟨ret_int (sat_hi h).symm, rfl⟩
  · by_cases h2 : a < -536870911
    · go_enter Tryz.func125, Tryz.ntmps125
      go_wp2
      go_ret
      exact ⟨ret_int (sat_lo h2).symm, rfl⟩
    · go_enter Tryz.func125, Tryz.ntmps125
      go_wp2
      go_ret
      exact ⟨ret_int (sat_id (by omega) (by omega)).symm, rfl⟩

theorem rsat_p (a : Int) (w : World) : Calls Tryz.prog 84 #[.int .i64 a] w fun e w' => e = .returned (.int .i64 (sat a)) ∧ w = w' := by
  by_cases h : 536870911 < a
  · go_enter Tryz.func84, Tryz.ntmps84
    go_wp2
    go_ret
    exact ⟨ret_int (sat_hi h).symm, rfl⟩
  · by_cases h2 : a < -536870911
    · go_enter Tryz.func84, Tryz.ntmps84
      go_wp2
      go_ret
      exact ⟨ret_int (sat_lo h2).symm, rfl⟩
    · go_enter Tryz.func84, Tryz.ntmps84
      go_wp2
      go_ret
      exact ⟨ret_int (sat_id (by omega) (by omega)).symm, rfl⟩

theorem add_p (a b : Int) (w : World) : Calls Tryz.prog 88 #[.int .i64 a, .int .i64 b] w fun e w' => e = .returned (.int .i64 (add a b)) ∧ w = w' := by
  have h1 := sat_le a; have h2 := sat_ge a; have h3 := sat_le b; have h4 := sat_ge b
  go_enter Tryz.func88, Tryz.ntmps88
  go_wp2_with (go_at_call 125; refine (sat_p _ _).mono ?_; rintro e w' ⟨rfl, rfl⟩)
  go_ret
  exact ⟨rfl, rfl⟩

theorem radd_p (a b : Int) (w : World) : Calls Tryz.prog 64 #[.int .i64 a, .int .i64 b] w fun e w' => e = .returned (.int .i64 (add a b)) ∧ w = w' := by
  have h1 := sat_le a; have h2 := sat_ge a; have h3 := sat_le b; have h4 := sat_ge b
  go_enter Tryz.func64, Tryz.ntmps64
  go_wp2_with (go_at_call 84; refine (rsat_p _ _).mono ?_; rintro e w' ⟨rfl, rfl⟩)
  go_ret
  exact ⟨rfl, rfl⟩

theorem sub_p (a b : Int) (w : World) : Calls Tryz.prog 87 #[.int .i64 a, .int .i64 b] w fun e w' => e = .returned (.int .i64 (sub a b)) ∧ w = w' := by
  have h1 := sat_le a; have h2 := sat_ge a; have h3 := sat_le b; have h4 := sat_ge b
  go_enter Tryz.func87, Tryz.ntmps87
  go_wp2_with (go_at_call 125; refine (sat_p _ _).mono ?_; rintro e w' ⟨rfl, rfl⟩)
  go_ret
  exact ⟨rfl, rfl⟩

theorem rsub_p (a b : Int) (w : World) : Calls Tryz.prog 63 #[.int .i64 a, .int .i64 b] w fun e w' => e = .returned (.int .i64 (sub a b)) ∧ w = w' := by
  have h1 := sat_le a; have h2 := sat_ge a; have h3 := sat_le b; have h4 := sat_ge b
  go_enter Tryz.func63, Tryz.ntmps63
  go_wp2_with (go_at_call 84; refine (rsat_p _ _).mono ?_; rintro e w' ⟨rfl, rfl⟩)
  go_ret
  exact ⟨rfl, rfl⟩

end Go.Proofs.YtaahgblkmajceaaGreat

namespace Go.Proofs.YtaahgblkmajceaaGreat
open Go.RowKit Fx

/-- the world is as it was, but for draws -/
def Dr (w w' : World) : Prop := ∃ m, w' = w.drewN m
theorem Dr.refl (w : World) : Dr w w := ⟨0, rfl⟩
theorem Dr.trans {a b c : World} (h : Dr a b) (k : Dr b c) : Dr a c := by
  obtain ⟨m, rfl⟩ := h; obtain ⟨n, rfl⟩ := k; exact ⟨m + n, by rw [World.drewN_drewN]⟩
theorem Dr.mk (w : World) (n : Nat) : Dr w (w.drewN n) := ⟨n, rfl⟩
theorem Dr.grown {w w' : World} (h : Dr w w') : Grown w w' := by
  obtain ⟨m, rfl⟩ := h; exact Grown.refl w
theorem Dr.of_eq {w w' : World} (h : w = w') : Dr w w' := h ▸ Dr.refl w

theorem rd_out (n d : Int) (w : World) (h : d < 1 ∨ 4611686018427387904 < d ∨ n < -4611686018427387904 ∨ 4611686018427387904 < n) : Calls Tryz.prog 170 #[.int .i64 n, .int .i64 d] w fun e w' => e = .returned (.int .i64 0) ∧ Dr w w' := by
  by_cases h1 : d < 1
  · clear h
    go_enter Tryz.func170, Tryz.ntmps170
    go_wp2
    go_ret
    exact ⟨rfl, Dr.refl _⟩
  · by_cases h2 : 4611686018427387904 < d
    · clear h
      go_enter Tryz.func170, Tryz.ntmps170
      go_wp2
      go_ret
      exact ⟨rfl, Dr.refl _⟩
    · by_cases h3 : n < -4611686018427387904
      · clear h
        go_enter Tryz.func170, Tryz.ntmps170
        go_wp2
        go_ret
        exact ⟨rfl, Dr.refl _⟩
      · have h4 : 4611686018427387904 < n := by omega
        clear h
        go_enter Tryz.func170, Tryz.ntmps170
        go_wp2
        go_ret
        exact ⟨rfl, Dr.refl _⟩

theorem rd_pos (n d : Int) (w : World) (h1 : 1 ≤ d) (h2 : d ≤ 4611686018427387904) (h3 : 0 ≤ n) (h4 : n ≤ 4611686018427387904) : Calls Tryz.prog 170 #[.int .i64 n, .int .i64 d] w fun e w' => e = .returned (.int .i64 (rcore n d)) ∧ Dr w w' := by
  have he := (euclid n d h1).2
  have hb := ediv_bounds h3 h1
  by_cases hc : d ≤ 2 * (n % d)
  · go_enter Tryz.func170, Tryz.ntmps170
    go_wp2
    go_quiet (fail)
    go_wp2
    go_ret
    exact ⟨ret_int (rcore_up h3 hc).symm, Dr.mk _ _⟩
  · go_enter Tryz.func170, Tryz.ntmps170
    go_wp2
    go_quiet (fail)
    go_wp2
    go_ret
    exact ⟨ret_int (rcore_down h3 (by omega)).symm, Dr.mk _ _⟩

theorem rd_neg (n d : Int) (w : World) (h1 : 1 ≤ d) (h2 : d ≤ 4611686018427387904) (h3 : n < 0) (h4 : -4611686018427387904 ≤ n) : Calls Tryz.prog 170 #[.int .i64 n, .int .i64 d] w fun e w' => e = .returned (.int .i64 (rcore n d)) ∧ Dr w w' := by
  have he := (euclid (-n) d h1).2
  have hb := ediv_bounds (m := -n) (d := d) (by omega) h1
  have ht := tdiv_neg (n := n) (d := d) (by omega)
  have t1 : -4611686018427387904 ≤ n.tdiv d := by omega
  have t2 : n.tdiv d ≤ 0 := by omega
  have t3 : -d < n.tmod d := by omega
  have t4 : n.tmod d ≤ 0 := by omega
  have Ht := Lib.hid ht
  clear ht
  by_cases hc : 2 * n.tmod d ≤ -d
  · clear he hb
    go_enter Tryz.func170, Tryz.ntmps170
    go_wp2
    go_quiet (fail)
    go_wp2
    go_ret
    have hd := Ht.out
    exact ⟨ret_int (by rw [rcore_nup h3 (by omega)]; omega), Dr.mk _ _⟩
  · clear he hb
    go_enter Tryz.func170, Tryz.ntmps170
    go_wp2
    go_quiet (fail)
    go_wp2
    go_ret
    have hd := Ht.out
    exact ⟨ret_int (by rw [rcore_ndown h3 (by omega)]; omega), Dr.mk _ _⟩

theorem rd_p (n d : Int) (w : World) : Calls Tryz.prog 170 #[.int .i64 n, .int .i64 d] w fun e w' => e = .returned (.int .i64 (rdiv n d)) ∧ Dr w w' := by
  by_cases h : d < 1 ∨ 4611686018427387904 < d ∨ n < -4611686018427387904 ∨ 4611686018427387904 < n
  · rw [rdiv_out h]; exact rd_out n d w h
  · rw [rdiv_in (by omega) (by omega) (by omega) (by omega)]
    by_cases h3 : 0 ≤ n
    · exact rd_pos n d w (by omega) (by omega) h3 (by omega)
    · exact rd_neg n d w (by omega) (by omega) (by omega) (by omega)

end Go.Proofs.YtaahgblkmajceaaGreat

namespace Go.Proofs.YtaahgblkmajceaaGreat
open Go.RowKit Fx

theorem oor_yes (n : Int) (w : World) (h : n < -4611686018427387904 ∨ 4611686018427387904 < n) : Calls Tryz.prog 162 #[.int .i64 n] w fun e w' => e = .returned (.bool true) ∧ w = w' := by
  by_cases h1 : 4611686018427387904 < n
  · clear h
    go_enter Tryz.func162, Tryz.ntmps162
    go_wp2
    go_ret
    exact ⟨rfl, rfl⟩
  · have h2 : n < -4611686018427387904 := by omega
    clear h
    go_enter Tryz.func162, Tryz.ntmps162
    go_wp2
    go_ret
    exact ⟨ret_bool (by simp <;> omega), rfl⟩

theorem oor_no (n : Int) (w : World) (h1 : -4611686018427387904 ≤ n) (h2 : n ≤ 4611686018427387904) : Calls Tryz.prog 162 #[.int .i64 n] w fun e w' => e = .returned (.bool false) ∧ w = w' := by
  go_enter Tryz.func162, Tryz.ntmps162
  go_wp2
  go_ret
  exact ⟨ret_bool (by simp <;> omega), rfl⟩

theorem rrd_out (n d : Int) (w : World) (h : d < 1 ∨ 4611686018427387904 < d ∨ n < -4611686018427387904 ∨ 4611686018427387904 < n) : Calls Tryz.prog 144 #[.int .i64 n, .int .i64 d] w fun e w' => e = .returned (.int .i64 0) ∧ Dr w w' := by
  by_cases h1 : d < 1
  · clear h
    go_enter Tryz.func144, Tryz.ntmps144
    go_wp2_with fail
    go_ret
    exact ⟨rfl, Dr.refl _⟩
  · by_cases h2 : 4611686018427387904 < d
    · clear h
      go_enter Tryz.func144, Tryz.ntmps144
      go_wp2_with (go_at_call 162; refine (oor_yes _ _ (by omega)).mono ?_; rintro e w' ⟨rfl, rfl⟩)
      go_ret
      exact ⟨rfl, Dr.refl _⟩
    · have h3 : n < -4611686018427387904 ∨ 4611686018427387904 < n := by omega
      have H3 := Lib.hid h3
      clear h h3
      go_enter Tryz.func144, Tryz.ntmps144
      go_wp2_with fail
      refine (oor_no _ _ (by omega) (by omega)).mono ?_
      rintro e w' ⟨rfl, rfl⟩
      go_wp2_with fail
      refine (oor_yes _ _ H3.out).mono ?_
      rintro e w' ⟨rfl, rfl⟩
      go_wp2_with fail
      go_ret
      exact ⟨rfl, Dr.refl _⟩

theorem rrd_pos (n d : Int) (w : World) (h1 : 1 ≤ d) (h2 : d ≤ 4611686018427387904) (h3 : 0 ≤ n) (h4 : n ≤ 4611686018427387904) : Calls Tryz.prog 144 #[.int .i64 n, .int .i64 d] w fun e w' => e = .returned (.int .i64 (rcore n d)) ∧ Dr w w' := by
  have he := euclid n d h1
  have hb := ediv_bounds h3 h1
  have q1 : 0 ≤ n / d * d := Int.mul_nonneg hb.1 (by omega)
  have q2 : n / d * d ≤ n := by omega
  have He := Lib.hid he
  have hn : ¬ n < 0 := by omega
  by_cases hc : d - (n - n / d * d) ≤ n - n / d * d
  · clear he
    go_enter Tryz.func144, Tryz.ntmps144
    go_wp2_with (go_at_call 162; refine (oor_no _ _ (by omega) (by omega)).mono ?_; rintro e w' ⟨rfl, rfl⟩)
    go_ret
    have hd := He.out
    exact ⟨ret_int (rcore_up h3 (by omega)).symm, Dr.refl _⟩
  · clear he
    go_enter Tryz.func144, Tryz.ntmps144
    go_wp2_with (go_at_call 162; refine (oor_no _ _ (by omega) (by omega)).mono ?_; rintro e w' ⟨rfl, rfl⟩)
    go_ret
    have hd := He.out
    exact ⟨ret_int (rcore_down h3 (by omega)).symm, Dr.refl _⟩

theorem rrd_neg (m d : Int) (w : World) (h1 : 1 ≤ d) (h2 : d ≤ 4611686018427387904) (h3 : 0 < m) (h4 : m ≤ 4611686018427387904) : Calls Tryz.prog 144 #[.int .i64 (-m), .int .i64 d] w fun e w' => e = .returned (.int .i64 (rcore (-m) d)) ∧ Dr w w' := by
  have h3' : 0 ≤ m := by omega
  have he := euclid m d h1
  have hb := ediv_bounds h3' h1
  have q1 : 0 ≤ m / d * d := Int.mul_nonneg hb.1 (by omega)
  have q2 : m / d * d ≤ m := by omega
  have He := Lib.hid he
  by_cases hc : d - (m - m / d * d) ≤ m - m / d * d
  · clear he
    go_enter Tryz.func144, Tryz.ntmps144
    go_wp2_with (go_at_call 162; refine (oor_no _ _ (by omega) (by omega)).mono ?_; rintro e w' ⟨rfl, rfl⟩)
    go_ret
    have hd := He.out
    exact ⟨ret_int (by rw [rcore_nup (by omega) (by rw [Int.neg_neg]; omega), Int.neg_neg]), Dr.refl _⟩
  · clear he
    go_enter Tryz.func144, Tryz.ntmps144
    go_wp2_with (go_at_call 162; refine (oor_no _ _ (by omega) (by omega)).mono ?_; rintro e w' ⟨rfl, rfl⟩)
    go_ret
    have hd := He.out
    exact ⟨ret_int (by rw [rcore_ndown (by omega) (by rw [Int.neg_neg]; omega), Int.neg_neg]), Dr.refl _⟩

theorem rrd_p (n d : Int) (w : World) : Calls Tryz.prog 144 #[.int .i64 n, .int .i64 d] w fun e w' => e = .returned (.int .i64 (rdiv n d)) ∧ Dr w w' := by
  by_cases h : d < 1 ∨ 4611686018427387904 < d ∨ n < -4611686018427387904 ∨ 4611686018427387904 < n
  · rw [rdiv_out h]; exact rrd_out n d w h
  · rw [rdiv_in (by omega) (by omega) (by omega) (by omega)]
    by_cases h3 : 0 ≤ n
    · exact rrd_pos n d w (by omega) (by omega) h3 (by omega)
    · obtain ⟨m, rfl⟩ : ∃ m, n = -m := ⟨-n, by omega⟩
      exact rrd_neg m d w (by omega) (by omega) (by omega) (by omega)

end Go.Proofs.YtaahgblkmajceaaGreat

set_option linter.unusedVariables false
namespace Go.Proofs.YtaahgblkmajceaaGreat
open Go.RowKit Fx

theorem mul_p (a b : Int) (w : World) : Calls Tryz.prog 178 #[.int .i64 a, .int .i64 b] w fun e w' => e = .returned (.int .i64 (mul a b)) ∧ Dr w w' := by
  have h1 := satmul a b
  go_enter Tryz.func178, Tryz.ntmps178
  go_wp2_with (first
    | (go_at_call 125; refine (sat_p _ _).mono ?_; rintro e w' ⟨rfl, rfl⟩)
    | (go_at_call 170; refine (rd_p _ _ _).mono ?_; rintro e w1 ⟨rfl, hw1⟩))
  go_ret
  exact ⟨rfl, by assumption⟩

theorem rmul_p (a b : Int) (w : World) : Calls Tryz.prog 174 #[.int .i64 a, .int .i64 b] w fun e w' => e = .returned (.int .i64 (mul a b)) ∧ Dr w w' := by
  have h1 := satmul a b
  go_enter Tryz.func174, Tryz.ntmps174
  go_wp2_with (first
    | (go_at_call 84; refine (rsat_p _ _).mono ?_; rintro e w' ⟨rfl, rfl⟩)
    | (go_at_call 144; refine (rrd_p _ _ _).mono ?_; rintro e w1 ⟨rfl, hw1⟩))
  go_ret
  exact ⟨rfl, by assumption⟩

theorem dz_p (a : Int) (w : World) : Calls Tryz.prog 173 #[.int .i64 a] w fun e w' => e = .returned (.int .i64 (dz a)) ∧ w = w' := by
  by_cases h1 : 0 < a
  · go_enter Tryz.func173, Tryz.ntmps173
    go_wp2
    go_ret
    exact ⟨ret_int (dz_pos h1).symm, rfl⟩
  · by_cases h2 : a < 0
    · go_enter Tryz.func173, Tryz.ntmps173
      go_wp2
      go_ret
      exact ⟨ret_int (dz_neg h2).symm, rfl⟩
    · go_enter Tryz.func173, Tryz.ntmps173
      go_wp2
      go_ret
      exact ⟨ret_int (dz_zero (by omega)).symm, rfl⟩

theorem div_zero (a : Int) (w : World) : Calls Tryz.prog 159 #[.int .i64 a, .int .i64 0] w fun e w' => e = .returned (.int .i64 (dz a)) ∧ Dr w w' := by
  go_enter Tryz.func159, Tryz.ntmps159
  go_wp2_with (go_at_call 173; refine (dz_p _ _).mono ?_; rintro e w' ⟨rfl, rfl⟩)
  go_ret
  exact ⟨rfl, Dr.refl _⟩

theorem div_pos (a b : Int) (w : World) (h : 0 < b) : Calls Tryz.prog 159 #[.int .i64 a, .int .i64 b] w fun e w' => e = .returned (.int .i64 (sat (rdiv (sat a * 65536) (sat b)))) ∧ Dr w w' := by
  have h1 := sat_le a
  have h2 := sat_ge a
  have h3 := (sat_pos_iff b).2 h
  have h4 := sat_le b
  have h0 : (b == 0) = false := by simp; omega
  go_enter Tryz.func159, Tryz.ntmps159
  go_wp2_with (first
    | (go_at_call 125; refine (sat_p _ _).mono ?_; rintro e w' ⟨rfl, rfl⟩)
    | (go_at_call 170; refine (rd_p _ _ _).mono ?_; rintro e w1 ⟨rfl, hw1⟩))
  go_ret
  exact ⟨rfl, by assumption⟩

theorem div_neg (a b : Int) (w : World) (h : b < 0) : Calls Tryz.prog 159 #[.int .i64 a, .int .i64 b] w fun e w' => e = .returned (.int .i64 (sat (rdiv (-(sat a * 65536)) (-sat b)))) ∧ Dr w w' := by
  have h1 := sat_le a
  have h2 := sat_ge a
  have h3 := (sat_neg_iff b).2 h
  have h4 := sat_ge b
  have h0 : (b == 0) = false := by simp; omega
  go_enter Tryz.func159, Tryz.ntmps159
  go_wp2_with (first
    | (go_at_call 125; refine (sat_p _ _).mono ?_; rintro e w' ⟨rfl, rfl⟩)
    | (go_at_call 170; refine (rd_p _ _ _).mono ?_; rintro e w1 ⟨rfl, hw1⟩))
  go_ret
  exact ⟨rfl, by assumption⟩

theorem div_p (a b : Int) (w : World) : Calls Tryz.prog 159 #[.int .i64 a, .int .i64 b] w fun e w' => e = .returned (.int .i64 (quo a b)) ∧ Dr w w' := by
  by_cases h : b = 0
  · subst h; rw [quo_zero rfl]; exact div_zero a w
  · by_cases h1 : b < 0
    · rw [quo_neg h1]; exact div_neg a b w h1
    · rw [quo_pos (by omega)]; exact div_pos a b w (by omega)

theorem rdiv_zero (a b : Int) (w : World) (h : b = 0) : Calls Tryz.prog 147 #[.int .i64 a, .int .i64 b] w fun e w' => e = .returned (.int .i64 (dz a)) ∧ Dr w w' := by
  have h1 := sat_le a
  have h2 := sat_ge a
  have h0 : (sat b == 0) = true := by rw [beq_iff_eq]; exact (sat_zero_iff b).2 h
  have h5 : ¬ sat b < 0 := by have := (sat_neg_iff b); omega
  by_cases hp : 0 < a
  · have h3 := (sat_pos_iff a).2 hp
    have H := Lib.hid h; clear h
    go_enter Tryz.func147, Tryz.ntmps147
    go_wp2_with (first
      | (go_at_call 84; refine (rsat_p _ _).mono ?_; rintro e w' ⟨rfl, rfl⟩))
    go_ret
    exact ⟨ret_int (dz_pos hp).symm, Dr.refl _⟩
  · by_cases hm : a < 0
    · have h3 := (sat_neg_iff a).2 hm
      have H := Lib.hid h; clear h
      go_enter Tryz.func147, Tryz.ntmps147
      go_wp2_with (first
        | (go_at_call 84; refine (rsat_p _ _).mono ?_; rintro e w' ⟨rfl, rfl⟩))
      go_ret
      exact ⟨ret_int (dz_neg hm).symm, Dr.refl _⟩
    · have h3 : ¬ sat a < 0 := by have := (sat_neg_iff a); omega
      have h4 : ¬ 0 < sat a := by have := (sat_pos_iff a); omega
      have H := Lib.hid h; clear h
      have e1 : sat (rdiv (sat a * 65536) (sat b)) = 0 := by
        rw [(sat_zero_iff b).2 H.out, rdiv_out (by omega)]; rfl
      have E1 := Lib.hid e1; clear e1
      go_enter Tryz.func147, Tryz.ntmps147
      go_wp2_with (first
        | (go_at_call 84; refine (rsat_p _ _).mono ?_; rintro e w' ⟨rfl, rfl⟩)
        | (go_at_call 144; refine (rrd_p _ _ _).mono ?_; rintro e w1 ⟨rfl, hw1⟩))
      go_ret
      exact ⟨ret_int (by rw [E1.out, dz_zero (by omega)]), by assumption⟩

theorem rdiv_pos (a b : Int) (w : World) (h : 0 < b) : Calls Tryz.prog 147 #[.int .i64 a, .int .i64 b] w fun e w' => e = .returned (.int .i64 (sat (rdiv (sat a * 65536) (sat b)))) ∧ Dr w w' := by
  have h1 := sat_le a
  have h2 := sat_ge a
  have h3 := (sat_pos_iff b).2 h
  have h4 := sat_le b
  have h0 : (sat b == 0) = false := by simp; omega
  go_enter Tryz.func147, Tryz.ntmps147
  go_wp2_with (first
    | (go_at_call 84; refine (rsat_p _ _).mono ?_; rintro e w' ⟨rfl, rfl⟩)
    | (go_at_call 144; refine (rrd_p _ _ _).mono ?_; rintro e w1 ⟨rfl, hw1⟩))
  go_ret
  exact ⟨rfl, by assumption⟩

theorem rdiv_neg (a b : Int) (w : World) (h : b < 0) : Calls Tryz.prog 147 #[.int .i64 a, .int .i64 b] w fun e w' => e = .returned (.int .i64 (sat (rdiv (-(sat a * 65536)) (-sat b)))) ∧ Dr w w' := by
  have h1 := sat_le a
  have h2 := sat_ge a
  have h3 := (sat_neg_iff b).2 h
  have h4 := sat_ge b
  have h0 : (sat b == 0) = false := by simp; omega
  go_enter Tryz.func147, Tryz.ntmps147
  go_wp2_with (first
    | (go_at_call 84; refine (rsat_p _ _).mono ?_; rintro e w' ⟨rfl, rfl⟩)
    | (go_at_call 144; refine (rrd_p _ _ _).mono ?_; rintro e w1 ⟨rfl, hw1⟩))
  go_ret
  exact ⟨ret_int (by first | rfl | rw [Int.neg_mul]), by assumption⟩

theorem rdiv_p (a b : Int) (w : World) : Calls Tryz.prog 147 #[.int .i64 a, .int .i64 b] w fun e w' => e = .returned (.int .i64 (quo a b)) ∧ Dr w w' := by
  by_cases h : b = 0
  · rw [quo_zero h]; exact rdiv_zero a b w h
  · by_cases h1 : b < 0
    · rw [quo_neg h1]; exact rdiv_neg a b w h1
    · rw [quo_pos (by omega)]; exact rdiv_pos a b w (by omega)

end Go.Proofs.YtaahgblkmajceaaGreat

namespace Go.Proofs.YtaahgblkmajceaaGreat
open Go.Shelf

def lenRen : Ren := ⟨fun | 129 => 81 | n => n, fun | 3 => 3 | 4 => 4 | 5 => 5 | 9 => 9 | 46 => 108 | 53 => 129 | n => n, fun n => n⟩
theorem lenLays : Lays.n129 Tryz.prog lenRen := {
  mixed := by kernel_rfl
  f129 := by kernel_rfl
  t3 := by kernel_rfl
  a3 := fun _ => by kernel_rfl
  z3 := fun _ => by kernel_rfl
  v3 := fun _ => by kernel_rfl
  t4 := by kernel_rfl
  a4 := fun _ => by kernel_rfl
  z4 := fun _ => by kernel_rfl
  v4 := fun _ => by kernel_rfl
  t5 := by kernel_rfl
  a5 := fun _ => by kernel_rfl
  z5 := fun _ => by kernel_rfl
  v5 := fun _ => by kernel_rfl
  t9 := by kernel_rfl
  a9 := fun _ => by kernel_rfl
  z9 := fun _ => by kernel_rfl
  v9 := fun _ => by kernel_rfl
  t46 := by kernel_rfl
  a46 := fun _ => by kernel_rfl
  z46 := fun _ => by kernel_rfl
  v46 := fun _ => by kernel_rfl
  t53 := by kernel_rfl
  a53 := fun _ => by kernel_rfl
  z53 := fun _ => by kernel_rfl
  v53 := fun _ => by kernel_rfl }

theorem len_p (x : Int) (w : World) (h0 : 0 ≤ x) (h1 : x ≤ 18446744073709551615) :
    Calls Tryz.prog 81 #[.int .u64 x] w fun e w' => e = .returned (.int .i64 (Lib.bitLen x.toNat)) ∧ w' = w := Any.bits_Len64 lenLays x w h0 h1

end Go.Proofs.YtaahgblkmajceaaGreat

set_option linter.unusedVariables false
namespace Go.Proofs.YtaahgblkmajceaaGreat
open Go.RowKit Fx

end Go.Proofs.YtaahgblkmajceaaGreat

set_option linter.unusedVariables false
namespace Go.Proofs.YtaahgblkmajceaaGreat
open Go.RowKit Fx

theorem isq_in (n : Int) (w : World) (h1 : 1 ≤ n) (h2 : n ≤ 4611686018427387904) : Calls Tryz.prog 158 #[.int .i64 n] w fun e w' => e = .returned (.int .i64 (isq n)) ∧ Dr w w' := by
  have hs := start_sq n.toNat (by omega)
  obtain ⟨hs1, hs2⟩ := hs
  have hp := pow_between _ hs2
  generalize hL : Lib.bitLen n.toNat = L at *
  have HL := Lib.hid hL
  clear hL
  have Hs := Lib.hid hs1
  clear hs1
  go_enter Tryz.func158, Tryz.ntmps158
  go_wp2_with (go_at_call 81; refine (len_p _ _ (by omega) (by omega)).mono ?_; rw [HL.out]; rintro e w' ⟨rfl, rfl⟩)
  go_loop [3] (fun t => ∃ r : Int, 1 ≤ r ∧ r ≤ 4294967296 ∧ Hid (n < (r + 1) * (r + 1)) ∧ t = .int .i64 r) (fun t => (intOf t).toNat)
  case atStart => exact ⟨_, by omega, by omega, Lib.hid (by have := Hs.out; omega), rfl⟩
  case round =>
    obtain ⟨r, hr1, hr2, hr3, rfl⟩ := hrel
    have hq1 := ediv_bounds (m := n) (d := r) (by omega) hr1
    have hn := newton (n := n) (r := r) (by omega) hr1
    have hn1 := sq_pos h1 (by omega) hn
    have Hn := Lib.hid hn
    clear hn
    by_cases hge : r ≤ (r + n / r) / 2
    · go_wp2
      go_ret
      exact ⟨ret_int (isq_eq (by omega) h2 (by omega) (div_ge hr1 (by omega)) hr3.out).symm, Dr.refl _⟩
    · go_wp2
      go_round
      case rel => exact ⟨(r + n / r) / 2, by omega, by omega, Hn, rfl⟩
      case measure => simp [intOf]; omega

theorem isq_p (n : Int) (w : World) : Calls Tryz.prog 158 #[.int .i64 n] w fun e w' => e = .returned (.int .i64 (isq n)) ∧ Dr w w' := by
  by_cases h1 : n < 1
  · have hz : isq n = 0 := by
      by_cases h0 : n = 0
      · subst h0; exact isq_eq (by omega) (by omega) (by omega) (by omega) (by omega)
      · exact isq_out (by omega)
    have Hz := Lib.hid hz; clear hz
    go_enter Tryz.func158, Tryz.ntmps158
    go_wp2_with fail
    go_ret
    exact ⟨ret_int Hz.out.symm, Dr.refl _⟩
  · by_cases h2 : 4611686018427387904 < n
    · go_enter Tryz.func158, Tryz.ntmps158
      go_wp2_with fail
      go_ret
      exact ⟨ret_int (isq_out (Or.inr h2)).symm, Dr.refl _⟩
    · exact isq_in n w (by omega) (by omega)

theorem risq_in (n : Int) (w : World) (h1 : 0 ≤ n) (h2 : n ≤ 4611686018427387904) : Calls Tryz.prog 140 #[.int .i64 n] w fun e w' => e = .returned (.int .i64 (isq n)) ∧ Dr w w' := by
  have hst := SqInv.start h1 h2
  go_enter Tryz.func140, Tryz.ntmps140
  go_wp2_with (go_at_call 162; refine (oor_no _ _ (by omega) (by omega)).mono ?_; rintro e w' ⟨rfl, rfl⟩)
  go_loop [3, 4] (fun tr tb => ∃ r b : Int, SqInv n r b ∧ tr = .int .i64 r ∧ tb = .int .i64 b) (fun _ tb => (intOf tb).toNat)
  case atStart => exact ⟨0, 2147483648, hst, rfl, rfl⟩
  case round =>
    obtain ⟨r, b, hi, rfl, rfl⟩ := hrel
    have hb := hi.bounds
    by_cases hpos : 0 < b
    · have hq := ediv_bounds (m := n) (d := r + b) h1 (by omega)
      have hsum : (r + b == 0) = false := by simp; omega
      by_cases hc : r + b ≤ n / (r + b)
      · go_wp2
        go_round
        case rel => exact ⟨r + b, b / 2, hi.take hpos hc, rfl, rfl⟩
        case measure => simp [intOf]; omega
      · go_wp2
        go_round
        case rel => exact ⟨r, b / 2, hi.skip hpos (by omega), rfl, rfl⟩
        case measure => simp [intOf]; omega
    · go_wp2
      go_ret
      exact ⟨ret_int (hi.done h1 h2 (by omega)).symm, Dr.refl _⟩

theorem risq_p (n : Int) (w : World) : Calls Tryz.prog 140 #[.int .i64 n] w fun e w' => e = .returned (.int .i64 (isq n)) ∧ Dr w w' := by
  by_cases h1 : n < 0
  · go_enter Tryz.func140, Tryz.ntmps140
    go_wp2_with fail
    go_ret
    exact ⟨ret_int (isq_out (Or.inl h1)).symm, Dr.refl _⟩
  · by_cases h2 : 4611686018427387904 < n
    · go_enter Tryz.func140, Tryz.ntmps140
      go_wp2_with (go_at_call 162; refine (oor_yes _ _ (by omega)).mono ?_; rintro e w' ⟨rfl, rfl⟩)
      go_ret
      exact ⟨ret_int (isq_out (Or.inr h2)).symm, Dr.refl _⟩
    · exact risq_in n w (by omega) (by omega)

theorem isq_max (s : Int) (h0 : -536870911 ≤ s) (h1 : s ≤ 536870911) : isq (max 0 s * 65536) = isq (s * 65536) := by
  by_cases h : s < 0
  · rw [isq_out (n := s * 65536) (by omega), show max 0 s * 65536 = 0 from by omega]
    exact isq_eq (by omega) (by omega) (by omega) (by omega) (by omega)
  · rw [show max 0 s = s from by omega]

end Go.Proofs.YtaahgblkmajceaaGreat
