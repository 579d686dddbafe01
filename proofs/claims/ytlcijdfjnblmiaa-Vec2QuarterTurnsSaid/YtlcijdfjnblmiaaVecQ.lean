/- Plain mathematics: quarter turns. No program is imported. -/
import Derived.Test.YtlcijdfjnblmiaaVecL
set_option linter.unusedVariables false
set_option linter.unusedSimpArgs false
namespace Go.Proofs.Ytlcijdfjnblmiaa.Fx

/-- The rotation after k quarter turns. -/
def qr : Nat → Int × Int
  | 0 => (65536, 0)
  | k + 1 => (-(qr k).2, (qr k).1)
/-- The vector after k turns by Perp. -/
def qv (x y : Int) : Nat → Int × Int
  | 0 => (add x 0, add y 0)
  | k + 1 => (-sat (qv x y k).2, sat (qv x y k).1)
theorem qr_in (k : Nat) : -65536 ≤ (qr k).1 ∧ (qr k).1 ≤ 65536 ∧ -65536 ≤ (qr k).2 ∧ (qr k).2 ≤ 65536 := by
  induction k with
  | zero => simp [qr]
  | succ k ih => simp only [qr]; omega
theorem rdiv_m (a : Int) (h1 : -536870911 ≤ a) (h2 : a ≤ 536870911) : rdiv (a * 65536) 65536 = a := by
  rw [rdiv_in (by omega) (by omega) (by omega) (by omega)]; exact rcore_one _ _ (by omega)
theorem sone : sat 65536 = 65536 := by decide +kernel
theorem smone : sat (-65536) = -65536 := by decide +kernel
theorem szero : sat 0 = 0 := by decide +kernel
theorem rd1 (x : Int) : rdiv (65536 * sat x) 65536 = sat x := by rw [Int.mul_comm]; exact rdiv_m _ (sat_ge _) (sat_le _)
theorem rd2 (x : Int) : rdiv (-(65536 * sat x)) 65536 = -sat x := by rw [rdiv_neg, rd1]
theorem q0 : qr 0 = (65536, 0) := rfl
theorem q1 : qr 1 = (0, 65536) := rfl
theorem q2 : qr 2 = (-65536, 0) := rfl
theorem q3 : qr 3 = (0, -65536) := rfl
theorem rot4 (x y : Int) (k : Nat) (hk : k ≤ 3) : rotx (qr k).1 (qr k).2 x y = (qv x y k).1 ∧ roty (qr k).1 (qr k).2 x y = (qv x y k).2 := by
  have h : k = 0 ∨ k = 1 ∨ k = 2 ∨ k = 3 := by omega
  rcases h with rfl | rfl | rfl | rfl
  · rw [q0]; simp only [qv, rotx, roty, sone, smone, szero, Int.zero_mul, Int.zero_sub, Int.sub_zero, Int.zero_add, Int.add_zero, Int.neg_mul, Int.neg_neg, Int.mul_neg, rd1, rd2, sat_sat, sat_neg, Int.sub_neg, Int.neg_zero, add_zero, and_self]
  · rw [q1]; simp only [qv, rotx, roty, sone, smone, szero, Int.zero_mul, Int.zero_sub, Int.sub_zero, Int.zero_add, Int.add_zero, Int.neg_mul, Int.neg_neg, Int.mul_neg, rd1, rd2, sat_sat, sat_neg, Int.sub_neg, Int.neg_zero, add_zero, and_self]
  · rw [q2]; simp only [qv, rotx, roty, sone, smone, szero, Int.zero_mul, Int.zero_sub, Int.sub_zero, Int.zero_add, Int.add_zero, Int.neg_mul, Int.neg_neg, Int.mul_neg, rd1, rd2, sat_sat, sat_neg, Int.sub_neg, Int.neg_zero, add_zero, and_self]
  · rw [q3]; simp only [qv, rotx, roty, sone, smone, szero, Int.zero_mul, Int.zero_sub, Int.sub_zero, Int.zero_add, Int.add_zero, Int.neg_mul, Int.neg_neg, Int.mul_neg, rd1, rd2, sat_sat, sat_neg, Int.sub_neg, Int.neg_zero, add_zero, and_self]
theorem irot4 (x y : Int) (k : Nat) (hk : k ≤ 3) : irotx (qr k).1 (qr k).2 (rotx (qr k).1 (qr k).2 x y) (roty (qr k).1 (qr k).2 x y) = add x 0 ∧ iroty (qr k).1 (qr k).2 (rotx (qr k).1 (qr k).2 x y) (roty (qr k).1 (qr k).2 x y) = add y 0 := by
  have h : k = 0 ∨ k = 1 ∨ k = 2 ∨ k = 3 := by omega
  rcases h with rfl | rfl | rfl | rfl
  · rw [q0]; simp only [irotx, iroty, rotx, roty, sone, smone, szero, Int.zero_mul, Int.zero_sub, Int.sub_zero, Int.zero_add, Int.add_zero, Int.neg_mul, Int.neg_neg, Int.mul_neg, rd1, rd2, sat_sat, sat_neg, Int.sub_neg, Int.neg_zero, add_zero, and_self]
  · rw [q1]; simp only [irotx, iroty, rotx, roty, sone, smone, szero, Int.zero_mul, Int.zero_sub, Int.sub_zero, Int.zero_add, Int.add_zero, Int.neg_mul, Int.neg_neg, Int.mul_neg, rd1, rd2, sat_sat, sat_neg, Int.sub_neg, Int.neg_zero, add_zero, and_self]
  · rw [q2]; simp only [irotx, iroty, rotx, roty, sone, smone, szero, Int.zero_mul, Int.zero_sub, Int.sub_zero, Int.zero_add, Int.add_zero, Int.neg_mul, Int.neg_neg, Int.mul_neg, rd1, rd2, sat_sat, sat_neg, Int.sub_neg, Int.neg_zero, add_zero, and_self]
  · rw [q3]; simp only [irotx, iroty, rotx, roty, sone, smone, szero, Int.zero_mul, Int.zero_sub, Int.sub_zero, Int.zero_add, Int.add_zero, Int.neg_mul, Int.neg_neg, Int.mul_neg, rd1, rd2, sat_sat, sat_neg, Int.sub_neg, Int.neg_zero, add_zero, and_self]

end Go.Proofs.Ytlcijdfjnblmiaa.Fx
