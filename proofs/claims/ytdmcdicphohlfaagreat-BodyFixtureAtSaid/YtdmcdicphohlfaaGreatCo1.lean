/- Contracts of Saturate, Add, Sub, outOfRange, divByZero and Clamp, of the program and of the reference: each returns the number that the Lean function of the same meaning gives, and leaves the world as it is. No conditions.
Contracts of RoundDiv, of the program and of the reference: each returns rdiv n d, whatever n and d are, and leaves the world as it is up to draws. No conditions.
Contracts of the reference's outOfRange and RoundDiv: RoundDiv returns rdiv n d, whatever n and d are, and leaves the world as it is up to draws. No conditions.
Contracts of Mul, Div, Lerp, divByZero and Clamp, of the program and of the reference: each returns the number that the Lean function of the same meaning gives, and leaves the world as it is up to draws. No conditions.
The contract of math/bits.Len64 in this program: it returns the number of bits of x, and the world is as it was. The shelf's theorem, applied to this program's numbers.
Contracts of Ratio and Clamp, of the program and of the reference: each returns the number that the Lean function of the same meaning gives, and leaves the world as it is up to draws. No conditions.
Contracts of Isqrt and Sqrt, of the program and of the reference: each returns the integer square root isq (0 outside its range), and leaves the world as it is up to draws. No conditions. -/
import Derived.Test.YtdmcdicphohlfaaGreatChecked
import Derived.Test.YtdmcdicphohlfaaGreatMa1
import Derived.WalkKit
import Derived.Deep.QuietTactic
import Derived.BigQuiet
import Derived.Lib.Hide
import Derived.Shelf.Strconv.Itoa0
import Derived.KernelRfl

namespace Go.Proofs.YtdmcdicphohlfaaGreat
open Go.RowKit Fx

theorem ret_int {k : IntKind} {a b : Int} (h : a = b) : Ending.returned (.int k a) = .returned (.int k b) := by rw [h]
theorem ret_bool {a b : Bool} (h : a = b) : Ending.returned (.bool a) = .returned (.bool b) := by rw [h]

theorem sat_p (a : Int) (w : World) : Calls Tryz.prog 164 #[.int .i64 a] w fun e w' => e = .returned (.int .i64 (sat a)) ∧ w = w' := by
  by_cases h : 536870911 < a
  · go_enter Tryz.func164, Tryz.ntmps164
    go_wp2
    go_ret
    exact ⟨ret_int (sat_hi h).symm, rfl⟩
  · by_cases h2 : a < -536870911
    · go_enter Tryz.func164, Tryz.ntmps164
      go_wp2
      go_ret
      exact ⟨ret_int (sat_lo h2).symm, rfl⟩
    · go_enter Tryz.func164, Tryz.ntmps164
      go_wp2
      go_ret
      exact ⟨ret_int (sat_id (by omega) (by omega)).symm, rfl⟩

theorem rsat_p (a : Int) (w : World) : Calls Tryz.prog 158 #[.int .i64 a] w fun e w' => e = .returned (.int .i64 (sat a)) ∧ w = w' := by
  by_cases h : 536870911 < a
  · go_enter Tryz.func158, Tryz.ntmps158
    go_wp2
    go_ret
    exact ⟨ret_int (sat_hi h).symm, rfl⟩
  · by_cases h2 : a < -536870911
    · go_enter Tryz.func158, Tryz.ntmps158
      go_wp2
      go_ret
      exact ⟨ret_int (sat_lo h2).symm, rfl⟩
    · go_enter Tryz.func158, Tryz.ntmps158
      go_wp2
      go_ret
      exact ⟨ret_int (sat_id (by omega) (by omega)).symm, rfl⟩

theorem add_p (a b : Int) (w : World) : Calls Tryz.prog 150 #[.int .i64 a, .int .i64 b] w fun e w' => e = .returned (.int .i64 (add a b)) ∧ w = w' := by
  have h1 := sat_le a; have h2 := sat_ge a; have h3 := sat_le b; have h4 := sat_ge b
  go_enter Tryz.func150, Tryz.ntmps150
  go_wp2_with (go_at_call 164; refine (sat_p _ _).mono ?_; rintro e w' ⟨rfl, rfl⟩)
  go_ret
  exact ⟨rfl, rfl⟩

theorem radd_p (a b : Int) (w : World) : Calls Tryz.prog 89 #[.int .i64 a, .int .i64 b] w fun e w' => e = .returned (.int .i64 (add a b)) ∧ w = w' := by
  have h1 := sat_le a; have h2 := sat_ge a; have h3 := sat_le b; have h4 := sat_ge b
  go_enter Tryz.func89, Tryz.ntmps89
  go_wp2_with (go_at_call 158; refine (rsat_p _ _).mono ?_; rintro e w' ⟨rfl, rfl⟩)
  go_ret
  exact ⟨rfl, rfl⟩

theorem sub_p (a b : Int) (w : World) : Calls Tryz.prog 163 #[.int .i64 a, .int .i64 b] w fun e w' => e = .returned (.int .i64 (sub a b)) ∧ w = w' := by
  have h1 := sat_le a; have h2 := sat_ge a; have h3 := sat_le b; have h4 := sat_ge b
  go_enter Tryz.func163, Tryz.ntmps163
  go_wp2_with (go_at_call 164; refine (sat_p _ _).mono ?_; rintro e w' ⟨rfl, rfl⟩)
  go_ret
  exact ⟨rfl, rfl⟩

theorem rsub_p (a b : Int) (w : World) : Calls Tryz.prog 137 #[.int .i64 a, .int .i64 b] w fun e w' => e = .returned (.int .i64 (sub a b)) ∧ w = w' := by
  have h1 := sat_le a; have h2 := sat_ge a; have h3 := sat_le b; have h4 := sat_ge b
  go_enter Tryz.func137, Tryz.ntmps137
  go_wp2_with (go_at_call 158; refine (rsat_p _ _).mono ?_; rintro e w' ⟨rfl, rfl⟩)
  go_ret
  exact ⟨rfl, rfl⟩

end Go.Proofs.YtdmcdicphohlfaaGreat

namespace Go.Proofs.YtdmcdicphohlfaaGreat
open Go.RowKit Fx

def Dr (w w' : World) : Prop := ∃ m, w' = w.drewN m
theorem Dr.refl (w : World) : Dr w w := ⟨0, rfl⟩
theorem Dr.trans {a b c : World} (h : Dr a b) (k : Dr b c) : Dr a c := by
  obtain ⟨m, rfl⟩ := h; obtain ⟨n, rfl⟩ := k; exact ⟨m + n, by rw [World.drewN_drewN]⟩
theorem Dr.mk (w : World) (n : Nat) : Dr w (w.drewN n) := ⟨n, rfl⟩
theorem Dr.grown {w w' : World} (h : Dr w w') : Grown w w' := by
  obtain ⟨m, rfl⟩ := h; exact Grown.refl w
theorem rd_out (n d : Int) (w : World) (h : d < 1 ∨ 4611686018427387904 < d ∨ n < -4611686018427387904 ∨ 4611686018427387904 < n) : Calls Tryz.prog 206 #[.int .i64 n, .int .i64 d] w fun e w' => e = .returned (.int .i64 0) ∧ Dr w w' := by
  by_cases h1 : d < 1
  · clear h
    go_enter Tryz.func206, Tryz.ntmps206
    go_wp2
    go_ret
    exact ⟨rfl, Dr.refl _⟩
  · by_cases h2 : 4611686018427387904 < d
    · clear h
      go_enter Tryz.func206, Tryz.ntmps206
      go_wp2
      go_ret
      exact ⟨rfl, Dr.refl _⟩
    · by_cases h3 : n < -4611686018427387904
      · clear h
        go_enter Tryz.func206, Tryz.ntmps206
        go_wp2
        go_ret
        exact ⟨rfl, Dr.refl _⟩
      · have h4 : 4611686018427387904 < n := by omega
        clear h
        go_enter Tryz.func206, Tryz.ntmps206
        go_wp2
        go_ret
        exact ⟨rfl, Dr.refl _⟩

theorem rd_pos (n d : Int) (w : World) (h1 : 1 ≤ d) (h2 : d ≤ 4611686018427387904) (h3 : 0 ≤ n) (h4 : n ≤ 4611686018427387904) : Calls Tryz.prog 206 #[.int .i64 n, .int .i64 d] w fun e w' => e = .returned (.int .i64 (rcore n d)) ∧ Dr w w' := by
  have he := (euclid n d h1).2
  have hb := ediv_bounds h3 h1
  by_cases hc : d ≤ 2 * (n % d)
  · go_enter Tryz.func206, Tryz.ntmps206
    go_wp2
    go_quiet (fail)
    go_wp2
    go_ret
    exact ⟨ret_int (rcore_up h3 hc).symm, Dr.mk _ _⟩
  · go_enter Tryz.func206, Tryz.ntmps206
    go_wp2
    go_quiet (fail)
    go_wp2
    go_ret
    exact ⟨ret_int (rcore_down h3 (by omega)).symm, Dr.mk _ _⟩

theorem rd_neg (n d : Int) (w : World) (h1 : 1 ≤ d) (h2 : d ≤ 4611686018427387904) (h3 : n < 0) (h4 : -4611686018427387904 ≤ n) : Calls Tryz.prog 206 #[.int .i64 n, .int .i64 d] w fun e w' => e = .returned (.int .i64 (rcore n d)) ∧ Dr w w' := by
  have he := (euclid (-n) d h1).2
  have hb := ediv_bounds (m := -n) (d := d) (by omega) h1
  have ht := tdiv_neg (n := n) (d := d) (by omega)
  have t1 : -4611686018427387904 ≤ n.tdiv d := by omega
  have t2 : n.tdiv d ≤ 0 := by omega
  have t3 : -d < n.tmod d := by omega
  have t4 : n.tmod d ≤ 0 := by omega
  have Ht := Lib.hid ht
  clear ht
  by_cases hc : 2 * n.tmod d ≤ -d
  · clear he hb
    go_enter Tryz.func206, Tryz.ntmps206
    go_wp2
    go_quiet (fail)
    go_wp2
    go_ret
    have hd := Ht.out
    exact ⟨ret_int (by rw [rcore_nup h3 (by omega)]; omega), Dr.mk _ _⟩
  · clear he hb
    go_enter Tryz.func206, Tryz.ntmps206
    go_wp2
    go_quiet (fail)
    go_wp2
    go_ret
    have hd := Ht.out
    exact ⟨ret_int (by rw [rcore_ndown h3 (by omega)]; omega), Dr.mk _ _⟩

theorem rd_p (n d : Int) (w : World) : Calls Tryz.prog 206 #[.int .i64 n, .int .i64 d] w fun e w' => e = .returned (.int .i64 (rdiv n d)) ∧ Dr w w' := by
  by_cases h : d < 1 ∨ 4611686018427387904 < d ∨ n < -4611686018427387904 ∨ 4611686018427387904 < n
  · rw [rdiv_out h]; exact rd_out n d w h
  · rw [rdiv_in (by omega) (by omega) (by omega) (by omega)]
    by_cases h3 : 0 ≤ n
    · exact rd_pos n d w (by omega) (by omega) h3 (by omega)
    · exact rd_neg n d w (by omega) (by omega) (by omega) (by omega)

end Go.Proofs.YtdmcdicphohlfaaGreat

namespace Go.Proofs.YtdmcdicphohlfaaGreat
open Go.RowKit Fx

theorem oor_yes (n : Int) (w : World) (h : n < -4611686018427387904 ∨ 4611686018427387904 < n) : Calls Tryz.prog 211 #[.int .i64 n] w fun e w' => e = .returned (.bool true) ∧ w = w' := by
  by_cases h1 : 4611686018427387904 < n
  · clear h
    go_enter Tryz.func211, Tryz.ntmps211
    go_wp2
    go_ret
    exact ⟨rfl, rfl⟩
  · have h2 : n < -4611686018427387904 := by omega
    clear h
    go_enter Tryz.func211, Tryz.ntmps211
    go_wp2
    go_ret
    exact ⟨ret_bool (by simp <;> omega), rfl⟩

theorem oor_no (n : Int) (w : World) (h1 : -4611686018427387904 ≤ n) (h2 : n ≤ 4611686018427387904) : Calls Tryz.prog 211 #[.int .i64 n] w fun e w' => e = .returned (.bool false) ∧ w = w' := by
  go_enter Tryz.func211, Tryz.ntmps211
  go_wp2
  go_ret
  exact ⟨ret_bool (by simp <;> omega), rfl⟩

theorem rrd_out (n d : Int) (w : World) (h : d < 1 ∨ 4611686018427387904 < d ∨ n < -4611686018427387904 ∨ 4611686018427387904 < n) : Calls Tryz.prog 159 #[.int .i64 n, .int .i64 d] w fun e w' => e = .returned (.int .i64 0) ∧ Dr w w' := by
  by_cases h1 : d < 1
  · clear h
    go_enter Tryz.func159, Tryz.ntmps159
    go_wp2_with fail
    go_ret
    exact ⟨rfl, Dr.refl _⟩
  · by_cases h2 : 4611686018427387904 < d
    · clear h
      go_enter Tryz.func159, Tryz.ntmps159
      go_wp2_with (go_at_call 211; refine (oor_yes _ _ (by omega)).mono ?_; rintro e w' ⟨rfl, rfl⟩)
      go_ret
      exact ⟨rfl, Dr.refl _⟩
    · have h3 : n < -4611686018427387904 ∨ 4611686018427387904 < n := by omega
      have H3 := Lib.hid h3
      clear h h3
      go_enter Tryz.func159, Tryz.ntmps159
      go_wp2_with fail
      refine (oor_no _ _ (by omega) (by omega)).mono ?_
      rintro e w' ⟨rfl, rfl⟩
      go_wp2_with fail
      refine (oor_yes _ _ H3.out).mono ?_
      rintro e w' ⟨rfl, rfl⟩
      go_wp2_with fail
      go_ret
      exact ⟨rfl, Dr.refl _⟩

theorem rrd_pos (n d : Int) (w : World) (h1 : 1 ≤ d) (h2 : d ≤ 4611686018427387904) (h3 : 0 ≤ n) (h4 : n ≤ 4611686018427387904) : Calls Tryz.prog 159 #[.int .i64 n, .int .i64 d] w fun e w' => e = .returned (.int .i64 (rcore n d)) ∧ Dr w w' := by
  have he := euclid n d h1
  have hb := ediv_bounds h3 h1
  have q1 : 0 ≤ n / d * d := Int.mul_nonneg hb.1 (by omega)
  have q2 : n / d * d ≤ n := by omega
  have He := Lib.hid he
  have hn : ¬ n < 0 := by omega
  by_cases hc : d - (n - n / d * d) ≤ n - n / d * d
  · clear he
    go_enter Tryz.func159, Tryz.ntmps159
    go_wp2_with (go_at_call 211; refine (oor_no _ _ (by omega) (by omega)).mono ?_; rintro e w' ⟨rfl, rfl⟩)
    go_ret
    have hd := He.out
    exact ⟨ret_int (rcore_up h3 (by omega)).symm, Dr.refl _⟩
  · clear he
    go_enter Tryz.func159, Tryz.ntmps159
    go_wp2_with (go_at_call 211; refine (oor_no _ _ (by omega) (by omega)).mono ?_; rintro e w' ⟨rfl, rfl⟩)
    go_ret
    have hd := He.out
    exact ⟨ret_int (rcore_down h3 (by omega)).symm, Dr.refl _⟩

theorem rrd_neg (m d : Int) (w : World) (h1 : 1 ≤ d) (h2 : d ≤ 4611686018427387904) (h3 : 0 < m) (h4 : m ≤ 4611686018427387904) : Calls Tryz.prog 159 #[.int .i64 (-m), .int .i64 d] w fun e w' => e = .returned (.int .i64 (rcore (-m) d)) ∧ Dr w w' := by
  have h3' : 0 ≤ m := by omega
  have he := euclid m d h1
  have hb := ediv_bounds h3' h1
  have q1 : 0 ≤ m / d * d := Int.mul_nonneg hb.1 (by omega)
  have q2 : m / d * d ≤ m := by omega
  have He := Lib.hid he
  by_cases hc : d - (m - m / d * d) ≤ m - m / d * d
  · clear he
    go_enter Tryz.func159, Tryz.ntmps159
    go_wp2_with (go_at_call 211; refine (oor_no _ _ (by omega) (by omega)).mono ?_; rintro e w' ⟨rfl, rfl⟩)
    go_ret
    have hd := He.out
    exact ⟨ret_int (by rw [rcore_nup (by omega) (by rw [Int.neg_neg]; omega), Int.neg_neg]), Dr.refl _⟩
  · clear he
    go_enter Tryz.func159, Tryz.ntmps159
    go_wp2_with (go_at_call 211; refine (oor_no _ _ (by omega) (by omega)).mono ?_; rintro e w' ⟨rfl, rfl⟩)
    go_ret
    have hd := He.out
    exact ⟨ret_int (by rw [rcore_ndown (by omega) (by rw [Int.neg_neg]; omega), Int.neg_neg]), Dr.refl _⟩

theorem rrd_p (n d : Int) (w : World) : Calls Tryz.prog 159 #[.int .i64 n, .int .i64 d] w fun e w' => e = .returned (.int .i64 (rdiv n d)) ∧ Dr w w' := by
  by_cases h : d < 1 ∨ 4611686018427387904 < d ∨ n < -4611686018427387904 ∨ 4611686018427387904 < n
  · rw [rdiv_out h]; exact rrd_out n d w h
  · rw [rdiv_in (by omega) (by omega) (by omega) (by omega)]
    by_cases h3 : 0 ≤ n
    · exact rrd_pos n d w (by omega) (by omega) h3 (by omega)
    · obtain ⟨m, rfl⟩ : ∃ m, n = -m := ⟨-n, by omega⟩
      exact rrd_neg m d w (by omega) (by omega) (by omega) (by omega)

end Go.Proofs.YtdmcdicphohlfaaGreat

set_option linter.unusedVariables false
namespace Go.Proofs.YtdmcdicphohlfaaGreat
open Go.RowKit Fx

theorem mul_p (a b : Int) (w : World) : Calls Tryz.prog 151 #[.int .i64 a, .int .i64 b] w fun e w' => e = .returned (.int .i64 (mul a b)) ∧ Dr w w' := by
  have h1 := satmul a b
  go_enter Tryz.func151, Tryz.ntmps151
  go_wp2_with (first
    | (go_at_call 164; refine (sat_p _ _).mono ?_; rintro e w' ⟨rfl, rfl⟩)
    | (go_at_call 206; refine (rd_p _ _ _).mono ?_; rintro e w1 ⟨rfl, hw1⟩))
  go_ret
  exact ⟨rfl, by assumption⟩

theorem rmul_p (a b : Int) (w : World) : Calls Tryz.prog 86 #[.int .i64 a, .int .i64 b] w fun e w' => e = .returned (.int .i64 (mul a b)) ∧ Dr w w' := by
  have h1 := satmul a b
  go_enter Tryz.func86, Tryz.ntmps86
  go_wp2_with (first
    | (go_at_call 158; refine (rsat_p _ _).mono ?_; rintro e w' ⟨rfl, rfl⟩)
    | (go_at_call 159; refine (rrd_p _ _ _).mono ?_; rintro e w1 ⟨rfl, hw1⟩))
  go_ret
  exact ⟨rfl, by assumption⟩

theorem lerp_p (a b t : Int) (w : World) : Calls Tryz.prog 273 #[.int .i64 a, .int .i64 b, .int .i64 t] w fun e w' => e = .returned (.int .i64 (lerp a b t)) ∧ Dr w w' := by
  go_enter Tryz.func273, Tryz.ntmps273
  go_wp2_with (first
    | (go_at_call 163; refine (sub_p _ _ _).mono ?_; rintro e w' ⟨rfl, rfl⟩)
    | (go_at_call 150; refine (add_p _ _ _).mono ?_; rintro e w' ⟨rfl, rfl⟩)
    | (go_at_call 151; refine (mul_p _ _ _).mono ?_; rintro e w1 ⟨rfl, hw1⟩))
  go_ret
  exact ⟨rfl, by assumption⟩

theorem rlerp_p (a b t : Int) (w : World) : Calls Tryz.prog 242 #[.int .i64 a, .int .i64 b, .int .i64 t] w fun e w' => e = .returned (.int .i64 (lerp a b t)) ∧ Dr w w' := by
  go_enter Tryz.func242, Tryz.ntmps242
  go_wp2_with (first
    | (go_at_call 137; refine (rsub_p _ _ _).mono ?_; rintro e w' ⟨rfl, rfl⟩)
    | (go_at_call 89; refine (radd_p _ _ _).mono ?_; rintro e w' ⟨rfl, rfl⟩)
    | (go_at_call 86; refine (rmul_p _ _ _).mono ?_; rintro e w1 ⟨rfl, hw1⟩))
  go_ret
  exact ⟨rfl, by assumption⟩

theorem dz_p (a : Int) (w : World) : Calls Tryz.prog 205 #[.int .i64 a] w fun e w' => e = .returned (.int .i64 (dz a)) ∧ w = w' := by
  by_cases h1 : 0 < a
  · go_enter Tryz.func205, Tryz.ntmps205
    go_wp2
    go_ret
    exact ⟨ret_int (dz_pos h1).symm, rfl⟩
  · by_cases h2 : a < 0
    · go_enter Tryz.func205, Tryz.ntmps205
      go_wp2
      go_ret
      exact ⟨ret_int (dz_neg h2).symm, rfl⟩
    · go_enter Tryz.func205, Tryz.ntmps205
      go_wp2
      go_ret
      exact ⟨ret_int (dz_zero (by omega)).symm, rfl⟩

theorem div_zero (a : Int) (w : World) : Calls Tryz.prog 148 #[.int .i64 a, .int .i64 0] w fun e w' => e = .returned (.int .i64 (dz a)) ∧ Dr w w' := by
  go_enter Tryz.func148, Tryz.ntmps148
  go_wp2_with (go_at_call 205; refine (dz_p _ _).mono ?_; rintro e w' ⟨rfl, rfl⟩)
  go_ret
  exact ⟨rfl, Dr.refl _⟩

theorem div_pos (a b : Int) (w : World) (h : 0 < b) : Calls Tryz.prog 148 #[.int .i64 a, .int .i64 b] w fun e w' => e = .returned (.int .i64 (sat (rdiv (sat a * 65536) (sat b)))) ∧ Dr w w' := by
  have h1 := sat_le a
  have h2 := sat_ge a
  have h3 := (sat_pos_iff b).2 h
  have h4 := sat_le b
  have h0 : (b == 0) = false := by simp; omega
  go_enter Tryz.func148, Tryz.ntmps148
  go_wp2_with (first
    | (go_at_call 164; refine (sat_p _ _).mono ?_; rintro e w' ⟨rfl, rfl⟩)
    | (go_at_call 206; refine (rd_p _ _ _).mono ?_; rintro e w1 ⟨rfl, hw1⟩))
  go_ret
  exact ⟨rfl, by assumption⟩

theorem div_neg (a b : Int) (w : World) (h : b < 0) : Calls Tryz.prog 148 #[.int .i64 a, .int .i64 b] w fun e w' => e = .returned (.int .i64 (sat (rdiv (-(sat a * 65536)) (-sat b)))) ∧ Dr w w' := by
  have h1 := sat_le a
  have h2 := sat_ge a
  have h3 := (sat_neg_iff b).2 h
  have h4 := sat_ge b
  have h0 : (b == 0) = false := by simp; omega
  go_enter Tryz.func148, Tryz.ntmps148
  go_wp2_with (first
    | (go_at_call 164; refine (sat_p _ _).mono ?_; rintro e w' ⟨rfl, rfl⟩)
    | (go_at_call 206; refine (rd_p _ _ _).mono ?_; rintro e w1 ⟨rfl, hw1⟩))
  go_ret
  exact ⟨rfl, by assumption⟩

theorem div_p (a b : Int) (w : World) : Calls Tryz.prog 148 #[.int .i64 a, .int .i64 b] w fun e w' => e = .returned (.int .i64 (quo a b)) ∧ Dr w w' := by
  by_cases h : b = 0
  · subst h; rw [quo_zero rfl]; exact div_zero a w
  · by_cases h1 : b < 0
    · rw [quo_neg h1]; exact div_neg a b w h1
    · rw [quo_pos (by omega)]; exact div_pos a b w (by omega)

theorem rdiv_zero (a b : Int) (w : World) (h : b = 0) : Calls Tryz.prog 149 #[.int .i64 a, .int .i64 b] w fun e w' => e = .returned (.int .i64 (dz a)) ∧ Dr w w' := by
  have h1 := sat_le a
  have h2 := sat_ge a
  have h0 : (sat b == 0) = true := by rw [beq_iff_eq]; exact (sat_zero_iff b).2 h
  have h5 : ¬ sat b < 0 := by have := (sat_neg_iff b); omega
  by_cases hp : 0 < a
  · have h3 := (sat_pos_iff a).2 hp
    have H := Lib.hid h; clear h
    go_enter Tryz.func149, Tryz.ntmps149
    go_wp2_with (first
      | (go_at_call 158; refine (rsat_p _ _).mono ?_; rintro e w' ⟨rfl, rfl⟩))
    go_ret
    exact ⟨ret_int (dz_pos hp).symm, Dr.refl _⟩
  · by_cases hm : a < 0
    · have h3 := (sat_neg_iff a).2 hm
      have H := Lib.hid h; clear h
      go_enter Tryz.func149, Tryz.ntmps149
      go_wp2_with (first
        | (go_at_call 158; refine (rsat_p _ _).mono ?_; rintro e w' ⟨rfl, rfl⟩))
      go_ret
      exact ⟨ret_int (dz_neg hm).symm, Dr.refl _⟩
    · have h3 : ¬ sat a < 0 := by have := (sat_neg_iff a); omega
      have h4 : ¬ 0 < sat a := by have := (sat_pos_iff a); omega
      have H := Lib.hid h; clear h
      have e1 : sat (rdiv (sat a * 65536) (sat b)) = 0 := by
        rw [(sat_zero_iff b).2 H.out, rdiv_out (by omega)]; rfl
      have E1 := Lib.hid e1; clear e1
      go_enter Tryz.func149, Tryz.ntmps149
      go_wp2_with (first
        | (go_at_call 158; refine (rsat_p _ _).mono ?_; rintro e w' ⟨rfl, rfl⟩)
        | (go_at_call 159; refine (rrd_p _ _ _).mono ?_; rintro e w1 ⟨rfl, hw1⟩))
      go_ret
      exact ⟨ret_int (by rw [E1.out, dz_zero (by omega)]), by assumption⟩

theorem rdiv_pos (a b : Int) (w : World) (h : 0 < b) : Calls Tryz.prog 149 #[.int .i64 a, .int .i64 b] w fun e w' => e = .returned (.int .i64 (sat (rdiv (sat a * 65536) (sat b)))) ∧ Dr w w' := by
  have h1 := sat_le a
  have h2 := sat_ge a
  have h3 := (sat_pos_iff b).2 h
  have h4 := sat_le b
  have h0 : (sat b == 0) = false := by simp; omega
  go_enter Tryz.func149, Tryz.ntmps149
  go_wp2_with (first
    | (go_at_call 158; refine (rsat_p _ _).mono ?_; rintro e w' ⟨rfl, rfl⟩)
    | (go_at_call 159; refine (rrd_p _ _ _).mono ?_; rintro e w1 ⟨rfl, hw1⟩))
  go_ret
  exact ⟨rfl, by assumption⟩

theorem rdiv_neg (a b : Int) (w : World) (h : b < 0) : Calls Tryz.prog 149 #[.int .i64 a, .int .i64 b] w fun e w' => e = .returned (.int .i64 (sat (rdiv (-(sat a * 65536)) (-sat b)))) ∧ Dr w w' := by
  have h1 := sat_le a
  have h2 := sat_ge a
  have h3 := (sat_neg_iff b).2 h
  have h4 := sat_ge b
  have h0 : (sat b == 0) = false := by simp; omega
  go_enter Tryz.func149, Tryz.ntmps149
  go_wp2_with (first
    | (go_at_call 158; refine (rsat_p _ _).mono ?_; rintro e w' ⟨rfl, rfl⟩)
    | (go_at_call 159; refine (rrd_p _ _ _).mono ?_; rintro e w1 ⟨rfl, hw1⟩))
  go_ret
  exact ⟨ret_int (by first | rfl | rw [Int.neg_mul]), by assumption⟩

theorem rdiv_p (a b : Int) (w : World) : Calls Tryz.prog 149 #[.int .i64 a, .int .i64 b] w fun e w' => e = .returned (.int .i64 (quo a b)) ∧ Dr w w' := by
  by_cases h : b = 0
  · rw [quo_zero h]; exact rdiv_zero a b w h
  · by_cases h1 : b < 0
    · rw [quo_neg h1]; exact rdiv_neg a b w h1
    · rw [quo_pos (by omega)]; exact rdiv_pos a b w (by omega)

end Go.Proofs.YtdmcdicphohlfaaGreat

namespace Go.Proofs.YtdmcdicphohlfaaGreat
open Go.Shelf

def lenRen : Ren := ⟨fun | 129 => 213 | n => n, fun | 3 => 3 | 4 => 4 | 5 => 5 | 9 => 9 | 46 => 173 | 53 => 187 | n => n, fun n => n⟩
theorem lenLays : Lays.n129 Tryz.prog lenRen := {
  mixed := by kernel_rfl
  f129 := by kernel_rfl
  t3 := by kernel_rfl
  a3 := fun _ => by kernel_rfl
  z3 := fun _ => by kernel_rfl
  v3 := fun _ => by kernel_rfl
  t4 := by kernel_rfl
  a4 := fun _ => by kernel_rfl
  z4 := fun _ => by kernel_rfl
  v4 := fun _ => by kernel_rfl
  t5 := by kernel_rfl
  a5 := fun _ => by kernel_rfl
  z5 := fun _ => by kernel_rfl
  v5 := fun _ => by kernel_rfl
  t9 := by kernel_rfl
  a9 := fun _ => by kernel_rfl
  z9 := fun _ => by kernel_rfl
  v9 := fun _ => by kernel_rfl
  t46 := by kernel_rfl
  a46 := fun _ => by kernel_rfl
  z46 := fun _ => by kernel_rfl
  v46 := fun _ => by kernel_rfl
  t53 := by kernel_rfl
  a53 := fun _ => by kernel_rfl
  z53 := fun _ => by kernel_rfl
  v53 := fun _ => by kernel_rfl }

theorem len_p (x : Int) (w : World) (h0 : 0 ≤ x) (h1 : x ≤ 18446744073709551615) :
    Calls Tryz.prog 213 #[.int .u64 x] w fun e w' => e = .returned (.int .i64 (Lib.bitLen x.toNat)) ∧ w' = w := Any.bits_Len64 lenLays x w h0 h1

end Go.Proofs.YtdmcdicphohlfaaGreat

set_option linter.unusedVariables false
namespace Go.Proofs.YtdmcdicphohlfaaGreat
open Go.RowKit Fx

theorem clamp_p (x low high : Int) (w : World) : Calls Tryz.prog 91 #[.int .i64 x, .int .i64 low, .int .i64 high] w fun e w' => e = .returned (.int .i64 (clamp x low high)) ∧ w = w' := by
  by_cases h1 : high < low
  · go_enter Tryz.func91, Tryz.ntmps91
    go_wp2
    go_ret
    exact ⟨ret_int (clamp_low (Or.inl h1)).symm, rfl⟩
  · by_cases h2 : x < low
    · go_enter Tryz.func91, Tryz.ntmps91
      go_wp2
      go_ret
      exact ⟨ret_int (clamp_low (Or.inr h2)).symm, rfl⟩
    · by_cases h3 : high < x
      · go_enter Tryz.func91, Tryz.ntmps91
        go_wp2
        go_ret
        exact ⟨ret_int (clamp_high (by omega) (by omega) h3).symm, rfl⟩
      · go_enter Tryz.func91, Tryz.ntmps91
        go_wp2
        go_ret
        exact ⟨ret_int (clamp_in (by omega) (by omega) (by omega)).symm, rfl⟩

theorem rclamp_p (x low high : Int) (w : World) : Calls Tryz.prog 92 #[.int .i64 x, .int .i64 low, .int .i64 high] w fun e w' => e = .returned (.int .i64 (clamp x low high)) ∧ w = w' := by
  by_cases h1 : high < low
  · go_enter Tryz.func92, Tryz.ntmps92
    go_wp2
    go_ret
    exact ⟨ret_int (clamp_low (Or.inl h1)).symm, rfl⟩
  · by_cases h2 : x < low
    · go_enter Tryz.func92, Tryz.ntmps92
      go_wp2
      go_ret
      exact ⟨ret_int (clamp_low (Or.inr h2)).symm, rfl⟩
    · by_cases h3 : high < x
      · go_enter Tryz.func92, Tryz.ntmps92
        go_wp2
        go_ret
        exact ⟨ret_int (clamp_high (by omega) (by omega) h3).symm, rfl⟩
      · go_enter Tryz.func92, Tryz.ntmps92
        go_wp2
        go_ret
        exact ⟨ret_int (clamp_in (by omega) (by omega) (by omega)).symm, rfl⟩

theorem rt_high (n d : Int) (w : World) (h2 : d ≤ 4611686018427387904) (h3 : 1 ≤ n) (h : n < d) (h4 : 70368744177664 ≤ d) : Calls Tryz.prog 256 #[.int .i64 n, .int .i64 d] w fun e w' => e = .returned (.int .i64 (min 65536 (rdiv n (rdiv d 65536)))) ∧ Dr w w' := by
  go_enter Tryz.func256, Tryz.ntmps256
  go_wp2_with (first
    | (go_at_call 206; refine (rd_p _ _ _).mono ?_; rintro e w1 ⟨rfl, hw1⟩))
  all_goals (go_ret; exact ⟨ret_int (by omega), Dr.trans (by assumption) (by assumption)⟩)

theorem rt_low (n d : Int) (w : World) (h2 : d ≤ 4611686018427387904) (h3 : 1 ≤ n) (h : n < d) (h4 : d < 70368744177664) : Calls Tryz.prog 256 #[.int .i64 n, .int .i64 d] w fun e w' => e = .returned (.int .i64 (rdiv (n * 65536) d)) ∧ Dr w w' := by
  go_enter Tryz.func256, Tryz.ntmps256
  go_wp2_with (first
    | (go_at_call 206; refine (rd_p _ _ _).mono ?_; rintro e w1 ⟨rfl, hw1⟩))
  go_ret
  exact ⟨rfl, by assumption⟩

theorem rt_one (n d : Int) (w : World) (h1 : 1 ≤ d) (h2 : d ≤ 4611686018427387904) (h3 : 1 ≤ n) (h : d ≤ n) : Calls Tryz.prog 256 #[.int .i64 n, .int .i64 d] w fun e w' => e = .returned (.int .i64 65536) ∧ Dr w w' := by
  go_enter Tryz.func256, Tryz.ntmps256
  go_wp2_with fail
  go_ret
  exact ⟨rfl, Dr.refl _⟩

theorem rt_out (n d : Int) (w : World) (h : d < 1 ∨ 4611686018427387904 < d ∨ n < 1) : Calls Tryz.prog 256 #[.int .i64 n, .int .i64 d] w fun e w' => e = .returned (.int .i64 0) ∧ Dr w w' := by
  by_cases h1 : d < 1
  · clear h
    go_enter Tryz.func256, Tryz.ntmps256
    go_wp2_with fail
    go_ret
    exact ⟨rfl, Dr.refl _⟩
  · by_cases h2 : 4611686018427387904 < d
    · clear h
      go_enter Tryz.func256, Tryz.ntmps256
      go_wp2_with fail
      go_ret
      exact ⟨rfl, Dr.refl _⟩
    · have h3 : n < 1 := by omega
      clear h
      go_enter Tryz.func256, Tryz.ntmps256
      go_wp2_with fail
      go_ret
      exact ⟨rfl, Dr.refl _⟩

theorem rt_p (n d : Int) (w : World) : Calls Tryz.prog 256 #[.int .i64 n, .int .i64 d] w fun e w' => e = .returned (.int .i64 (ratio n d)) ∧ Dr w w' := by
  by_cases h : d < 1 ∨ 4611686018427387904 < d ∨ n < 1
  · rw [ratio_out h]; exact rt_out n d w h
  · by_cases h1 : d ≤ n
    · rw [ratio_one (by omega) (by omega) (by omega) h1]; exact rt_one n d w (by omega) (by omega) (by omega) h1
    · by_cases h4 : d < 70368744177664
      · rw [ratio_low (by omega) (by omega) (by omega) h4]; exact rt_low n d w (by omega) (by omega) (by omega) h4
      · rw [ratio_high (by omega) (by omega) (by omega) (by omega)]; exact rt_high n d w (by omega) (by omega) (by omega) (by omega)

theorem rrt_high (n d : Int) (w : World) (h2 : d ≤ 4611686018427387904) (h3 : 1 ≤ n) (h : n < d) (h4 : 70368744177664 ≤ d) : Calls Tryz.prog 251 #[.int .i64 n, .int .i64 d] w fun e w' => e = .returned (.int .i64 (min 65536 (rdiv n (rdiv d 65536)))) ∧ Dr w w' := by
  go_enter Tryz.func251, Tryz.ntmps251
  go_wp2_with (first
    | (go_at_call 159; refine (rrd_p _ _ _).mono ?_; rintro e w1 ⟨rfl, hw1⟩)
    | (go_at_call 211; refine (oor_no _ _ (by omega) (by omega)).mono ?_; rintro e w' ⟨rfl, rfl⟩))
  all_goals (go_ret; exact ⟨ret_int (by omega), Dr.trans (by assumption) (by assumption)⟩)

theorem rrt_low (n d : Int) (w : World) (h2 : d ≤ 4611686018427387904) (h3 : 1 ≤ n) (h : n < d) (h4 : d < 70368744177664) : Calls Tryz.prog 251 #[.int .i64 n, .int .i64 d] w fun e w' => e = .returned (.int .i64 (rdiv (n * 65536) d)) ∧ Dr w w' := by
  go_enter Tryz.func251, Tryz.ntmps251
  go_wp2_with (first
    | (go_at_call 159; refine (rrd_p _ _ _).mono ?_; rintro e w1 ⟨rfl, hw1⟩)
    | (go_at_call 211; refine (oor_no _ _ (by omega) (by omega)).mono ?_; rintro e w' ⟨rfl, rfl⟩))
  go_ret
  exact ⟨rfl, by assumption⟩

theorem rrt_one (n d : Int) (w : World) (h1 : 1 ≤ d) (h2 : d ≤ 4611686018427387904) (h3 : 1 ≤ n) (h : d ≤ n) : Calls Tryz.prog 251 #[.int .i64 n, .int .i64 d] w fun e w' => e = .returned (.int .i64 65536) ∧ Dr w w' := by
  go_enter Tryz.func251, Tryz.ntmps251
  go_wp2_with (go_at_call 211; refine (oor_no _ _ (by omega) (by omega)).mono ?_; rintro e w' ⟨rfl, rfl⟩)
  go_ret
  exact ⟨rfl, Dr.refl _⟩

theorem rrt_out (n d : Int) (w : World) (h : d < 1 ∨ 4611686018427387904 < d ∨ n < 1) : Calls Tryz.prog 251 #[.int .i64 n, .int .i64 d] w fun e w' => e = .returned (.int .i64 0) ∧ Dr w w' := by
  by_cases h1 : d < 1
  · clear h
    go_enter Tryz.func251, Tryz.ntmps251
    go_wp2_with fail
    go_ret
    exact ⟨rfl, Dr.refl _⟩
  · by_cases h2 : 4611686018427387904 < d
    · clear h
      go_enter Tryz.func251, Tryz.ntmps251
      go_wp2_with (go_at_call 211; refine (oor_yes _ _ (by omega)).mono ?_; rintro e w' ⟨rfl, rfl⟩)
      go_ret
      exact ⟨rfl, Dr.refl _⟩
    · have h3 : n < 1 := by omega
      clear h
      go_enter Tryz.func251, Tryz.ntmps251
      go_wp2_with (go_at_call 211; refine (oor_no _ _ (by omega) (by omega)).mono ?_; rintro e w' ⟨rfl, rfl⟩)
      go_ret
      exact ⟨rfl, Dr.refl _⟩

theorem rrt_p (n d : Int) (w : World) : Calls Tryz.prog 251 #[.int .i64 n, .int .i64 d] w fun e w' => e = .returned (.int .i64 (ratio n d)) ∧ Dr w w' := by
  by_cases h : d < 1 ∨ 4611686018427387904 < d ∨ n < 1
  · rw [ratio_out h]; exact rrt_out n d w h
  · by_cases h1 : d ≤ n
    · rw [ratio_one (by omega) (by omega) (by omega) h1]; exact rrt_one n d w (by omega) (by omega) (by omega) h1
    · by_cases h4 : d < 70368744177664
      · rw [ratio_low (by omega) (by omega) (by omega) h4]; exact rrt_low n d w (by omega) (by omega) (by omega) h4
      · rw [ratio_high (by omega) (by omega) (by omega) (by omega)]; exact rrt_high n d w (by omega) (by omega) (by omega) (by omega)

end Go.Proofs.YtdmcdicphohlfaaGreat

set_option linter.unusedVariables false
namespace Go.Proofs.YtdmcdicphohlfaaGreat
open Go.RowKit Fx

theorem isq_in (n : Int) (w : World) (h1 : 1 ≤ n) (h2 : n ≤ 4611686018427387904) : Calls Tryz.prog 162 #[.int .i64 n] w fun e w' => e = .returned (.int .i64 (isq n)) ∧ Dr w w' := by
  have hs := start_sq n.toNat (by omega)
  obtain ⟨hs1, hs2⟩ := hs
  have hp := pow_between _ hs2
  generalize hL : Lib.bitLen n.toNat = L at *
  have HL := Lib.hid hL
  clear hL
  have Hs := Lib.hid hs1
  clear hs1
  go_enter Tryz.func162, Tryz.ntmps162
  go_wp2_with (go_at_call 213; refine (len_p _ _ (by omega) (by omega)).mono ?_; rw [HL.out]; rintro e w' ⟨rfl, rfl⟩)
  go_loop [3] (fun t => ∃ r : Int, 1 ≤ r ∧ r ≤ 4294967296 ∧ Hid (n < (r + 1) * (r + 1)) ∧ t = .int .i64 r) (fun t => (intOf t).toNat)
  case atStart => exact ⟨_, by omega, by omega, Lib.hid (by have := Hs.out; omega), rfl⟩
  case round =>
    obtain ⟨r, hr1, hr2, hr3, rfl⟩ := hrel
    have hq1 := ediv_bounds (m := n) (d := r) (by omega) hr1
    have hn := newton (n := n) (r := r) (by omega) hr1
    have hn1 := sq_pos h1 (by omega) hn
    have Hn := Lib.hid hn
    clear hn
    by_cases hge : r ≤ (r + n / r) / 2
    · go_wp2
      go_ret
      exact ⟨ret_int (isq_eq (by omega) h2 (by omega) (div_ge hr1 (by omega)) hr3.out).symm, Dr.refl _⟩
    · go_wp2
      go_round
      case rel => exact ⟨(r + n / r) / 2, by omega, by omega, Hn, rfl⟩
      case measure => simp [intOf]; omega

theorem isq_p (n : Int) (w : World) : Calls Tryz.prog 162 #[.int .i64 n] w fun e w' => e = .returned (.int .i64 (isq n)) ∧ Dr w w' := by
  by_cases h1 : n < 1
  · have hz : isq n = 0 := by
      by_cases h0 : n = 0
      · subst h0; exact isq_eq (by omega) (by omega) (by omega) (by omega) (by omega)
      · exact isq_out (by omega)
    have Hz := Lib.hid hz; clear hz
    go_enter Tryz.func162, Tryz.ntmps162
    go_wp2_with fail
    go_ret
    exact ⟨ret_int Hz.out.symm, Dr.refl _⟩
  · by_cases h2 : 4611686018427387904 < n
    · go_enter Tryz.func162, Tryz.ntmps162
      go_wp2_with fail
      go_ret
      exact ⟨ret_int (isq_out (Or.inr h2)).symm, Dr.refl _⟩
    · exact isq_in n w (by omega) (by omega)

theorem risq_in (n : Int) (w : World) (h1 : 0 ≤ n) (h2 : n ≤ 4611686018427387904) : Calls Tryz.prog 185 #[.int .i64 n] w fun e w' => e = .returned (.int .i64 (isq n)) ∧ Dr w w' := by
  have hst := SqInv.start h1 h2
  go_enter Tryz.func185, Tryz.ntmps185
  go_wp2_with (go_at_call 211; refine (oor_no _ _ (by omega) (by omega)).mono ?_; rintro e w' ⟨rfl, rfl⟩)
  go_loop [3, 4] (fun tr tb => ∃ r b : Int, SqInv n r b ∧ tr = .int .i64 r ∧ tb = .int .i64 b) (fun _ tb => (intOf tb).toNat)
  case atStart => exact ⟨0, 2147483648, hst, rfl, rfl⟩
  case round =>
    obtain ⟨r, b, hi, rfl, rfl⟩ := hrel
    have hb := hi.bounds
    by_cases hpos : 0 < b
    · have hq := ediv_bounds (m := n) (d := r + b) h1 (by omega)
      have hsum : (r + b == 0) = false := by simp; omega
      by_cases hc : r + b ≤ n / (r + b)
      · go_wp2
        go_round
        case rel => exact ⟨r + b, b / 2, hi.take hpos hc, rfl, rfl⟩
        case measure => simp [intOf]; omega
      · go_wp2
        go_round
        case rel => exact ⟨r, b / 2, hi.skip hpos (by omega), rfl, rfl⟩
        case measure => simp [intOf]; omega
    · go_wp2
      go_ret
      exact ⟨ret_int (hi.done h1 h2 (by omega)).symm, Dr.refl _⟩

theorem risq_p (n : Int) (w : World) : Calls Tryz.prog 185 #[.int .i64 n] w fun e w' => e = .returned (.int .i64 (isq n)) ∧ Dr w w' := by
  by_cases h1 : n < 0
  · go_enter Tryz.func185, Tryz.ntmps185
    go_wp2_with fail
    go_ret
    exact ⟨ret_int (isq_out (Or.inl h1)).symm, Dr.refl _⟩
  · by_cases h2 : 4611686018427387904 < n
    · go_enter Tryz.func185, Tryz.ntmps185
      go_wp2_with (go_at_call 211; refine (oor_yes _ _ (by omega)).mono ?_; rintro e w' ⟨rfl, rfl⟩)
      go_ret
      exact ⟨ret_int (isq_out (Or.inr h2)).symm, Dr.refl _⟩
    · exact risq_in n w (by omega) (by omega)

end Go.Proofs.YtdmcdicphohlfaaGreat
