/- Plain mathematics of fixed-point arithmetic: the Lean functions that the contracts of package fixed and of its reference speak of. No program is imported.
Plain mathematics: Mul, Div, Lerp, Ratio and Clamp. No program is imported.
Plain mathematics: the laws of rounded division, of neutral elements and of ranges that the statements of chapter 1 speak of. No program is imported.
Plain mathematics of integer square roots: the function isq, what determines it, and one step of Newton's iteration. No program is imported.
Plain mathematics of vectors: the Lean functions, component by component, that the contracts of package vec2 and of its reference speak of. No program is imported.
Plain mathematics: what the statements of chapter 3 say of the Lean functions of vectors. No program is imported.
Plain mathematics of bounding boxes: the Lean functions that the contracts of package aabb and of its reference speak of, and what the statements of chapter 5 say of them. No program is imported. -/
import Derived.Lib.BitFns

namespace Go.Proofs.YtdmcdicphohlfaaGreat.Fx

def sat (x : Int) : Int := if 536870911 < x then 536870911 else if x < -536870911 then -536870911 else x

theorem sat_le (x : Int) : sat x ≤ 536870911 := by unfold sat; split <;> (try split) <;> omega
theorem sat_ge (x : Int) : -536870911 ≤ sat x := by unfold sat; split <;> (try split) <;> omega
theorem sat_id {x : Int} (h0 : -536870911 ≤ x) (h1 : x ≤ 536870911) : sat x = x := by
  unfold sat; rw [if_neg (by omega), if_neg (by omega)]
theorem sat_hi {x : Int} (h : 536870911 < x) : sat x = 536870911 := by unfold sat; rw [if_pos h]
theorem sat_lo {x : Int} (h : x < -536870911) : sat x = -536870911 := by unfold sat; rw [if_neg (by omega), if_pos h]
theorem sat_sat (x : Int) : sat (sat x) = sat x := sat_id (sat_ge x) (sat_le x)
theorem sat_neg (x : Int) : sat (-x) = -sat x := by unfold sat; split <;> split <;> (try split) <;> (try split) <;> omega
theorem sat_pos_iff (x : Int) : 0 < sat x ↔ 0 < x := by unfold sat; split <;> (try split) <;> omega
theorem sat_neg_iff (x : Int) : sat x < 0 ↔ x < 0 := by unfold sat; split <;> (try split) <;> omega
theorem sat_zero_iff (x : Int) : sat x = 0 ↔ x = 0 := by unfold sat; split <;> (try split) <;> omega

def add (a b : Int) : Int := sat (sat a + sat b)
def sub (a b : Int) : Int := sat (sat a - sat b)

def rpos (m d : Int) : Int := if d ≤ 2 * (m % d) then m / d + 1 else m / d
def rcore (n d : Int) : Int := if n < 0 then -rpos (-n) d else rpos n d
def rok (n d : Int) : Bool := decide (1 ≤ d) && decide (d ≤ 4611686018427387904) && decide (-4611686018427387904 ≤ n) && decide (n ≤ 4611686018427387904)
def rdiv (n d : Int) : Int := if rok n d then rcore n d else 0

theorem rok_iff (n d : Int) : rok n d = true ↔ 1 ≤ d ∧ d ≤ 4611686018427387904 ∧ -4611686018427387904 ≤ n ∧ n ≤ 4611686018427387904 := by
  simp [rok, and_assoc]
theorem rdiv_in {n d : Int} (h1 : 1 ≤ d) (h2 : d ≤ 4611686018427387904) (h3 : -4611686018427387904 ≤ n) (h4 : n ≤ 4611686018427387904) : rdiv n d = rcore n d := by
  unfold rdiv; rw [if_pos ((rok_iff n d).2 ⟨h1, h2, h3, h4⟩)]
theorem rdiv_out {n d : Int} (h : d < 1 ∨ 4611686018427387904 < d ∨ n < -4611686018427387904 ∨ 4611686018427387904 < n) : rdiv n d = 0 := by
  unfold rdiv; rw [if_neg]; rw [rok_iff]; omega

theorem euclid (m d : Int) (hd : 1 ≤ d) : m / d * d + m % d = m ∧ 0 ≤ m % d ∧ m % d < d := by
  refine ⟨?_, Int.emod_nonneg m (by omega), Int.emod_lt_of_pos m (by omega)⟩
  have := Int.mul_ediv_add_emod m d; rw [Int.mul_comm] at this; omega
theorem ediv_bounds {m d : Int} (hm : 0 ≤ m) (hd : 1 ≤ d) : 0 ≤ m / d ∧ m / d ≤ m :=
  ⟨Int.ediv_nonneg hm (by omega), Int.ediv_le_self d hm⟩
theorem rpos_bounds {m d : Int} (hm : 0 ≤ m) (hd : 1 ≤ d) : 0 ≤ rpos m d ∧ rpos m d ≤ m := by
  have hb := ediv_bounds hm hd
  have he := euclid m d hd
  unfold rpos
  split
  · rename_i h
    refine ⟨by omega, ?_⟩
    by_cases h0 : m / d = 0
    · rw [h0] at he ⊢; omega
    · by_cases h1 : d = 1
      · subst h1; omega
      · have : 1 ≤ m / d := by omega
        have h2 : m / d * 2 ≤ m / d * d := Int.mul_le_mul_of_nonneg_left (by omega) (by omega)
        omega
  · omega

theorem tdiv_neg {n d : Int} (hn : n ≤ 0) : n.tdiv d = -((-n) / d) ∧ n.tmod d = -((-n) % d) := by
  have h1 : n.tdiv d = -((-n) / d) := by
    rw [← Int.tdiv_eq_ediv_of_nonneg (by omega : 0 ≤ -n), Int.neg_tdiv]; omega
  have h2 := Int.mul_tdiv_add_tmod n d
  have h3 := Int.mul_ediv_add_emod (-n) d
  rw [h1, Int.mul_neg] at h2
  exact ⟨h1, by omega⟩
theorem rcore_neg (n d : Int) (hd : 1 ≤ d) : rcore (-n) d = -rcore n d := by
  unfold rcore
  by_cases h : n < 0
  · rw [if_neg (by omega), if_pos h]; omega
  · by_cases h0 : n = 0
    · subst h0; simp [rpos]; omega
    · rw [if_pos (by omega), if_neg h]; simp
theorem rcore_bounds {n d : Int} (hd : 1 ≤ d) : -n.natAbs ≤ rcore n d ∧ rcore n d ≤ n.natAbs := by
  unfold rcore
  split
  · have := rpos_bounds (m := -n) (d := d) (by omega) hd; omega
  · have := rpos_bounds (m := n) (d := d) (by omega) hd; omega

theorem rcore_up {n d : Int} (hn : 0 ≤ n) (h : d ≤ 2 * (n % d)) : rcore n d = n / d + 1 := by
  unfold rcore rpos; rw [if_neg (by omega), if_pos h]
theorem rcore_down {n d : Int} (hn : 0 ≤ n) (h : 2 * (n % d) < d) : rcore n d = n / d := by
  unfold rcore rpos; rw [if_neg (by omega), if_neg (by omega)]
theorem rcore_nup {n d : Int} (hn : n < 0) (h : d ≤ 2 * (-n % d)) : rcore n d = -(-n / d + 1) := by
  unfold rcore rpos; rw [if_pos hn, if_pos h]
theorem rcore_ndown {n d : Int} (hn : n < 0) (h : 2 * (-n % d) < d) : rcore n d = -(-n / d) := by
  unfold rcore rpos; rw [if_pos hn, if_neg (by omega)]

theorem mul_between {a b A B : Int} (ha0 : -A ≤ a) (ha1 : a ≤ A) (hb0 : -B ≤ b) (hb1 : b ≤ B) : -(A * B) ≤ a * b ∧ a * b ≤ A * B := by
  have h1 : (a * b).natAbs ≤ (A * B).natAbs := by
    rw [Int.natAbs_mul, Int.natAbs_mul]; exact Nat.mul_le_mul (by omega) (by omega)
  have h2 : 0 ≤ A * B := Int.mul_nonneg (by omega) (by omega)
  omega
theorem satmul (a b : Int) : -288230375077969921 ≤ sat a * sat b ∧ sat a * sat b ≤ 288230375077969921 := by
  have := mul_between (sat_ge a) (sat_le a) (sat_ge b) (sat_le b)
  omega

end Go.Proofs.YtdmcdicphohlfaaGreat.Fx

set_option linter.unusedVariables false
namespace Go.Proofs.YtdmcdicphohlfaaGreat.Fx

def mul (a b : Int) : Int := sat (rdiv (sat a * sat b) 65536)
def dz (a : Int) : Int := if 0 < a then 536870911 else if a < 0 then -536870911 else 0
def quo (a b : Int) : Int := if b = 0 then dz a else if b < 0 then sat (rdiv (-(sat a * 65536)) (-sat b)) else sat (rdiv (sat a * 65536) (sat b))
def lerp (a b t : Int) : Int := add a (mul (sub b a) t)
def clamp (x low high : Int) : Int := if high < low ∨ x < low then low else if high < x then high else x
def ratio (n d : Int) : Int :=
  if d < 1 ∨ 4611686018427387904 < d ∨ n < 1 then 0 else if d ≤ n then 65536
  else if d < 70368744177664 then rdiv (n * 65536) d else min 65536 (rdiv n (rdiv d 65536))

theorem dz_pos {a : Int} (h : 0 < a) : dz a = 536870911 := by unfold dz; rw [if_pos h]
theorem dz_neg {a : Int} (h : a < 0) : dz a = -536870911 := by unfold dz; rw [if_neg (by omega), if_pos h]
theorem dz_zero {a : Int} (h : a = 0) : dz a = 0 := by unfold dz; rw [if_neg (by omega), if_neg (by omega)]
theorem quo_zero {a b : Int} (h : b = 0) : quo a b = dz a := by unfold quo; rw [if_pos h]
theorem quo_neg {a b : Int} (h : b < 0) : quo a b = sat (rdiv (-(sat a * 65536)) (-sat b)) := by unfold quo; rw [if_neg (by omega), if_pos h]
theorem quo_pos {a b : Int} (h : 0 < b) : quo a b = sat (rdiv (sat a * 65536) (sat b)) := by unfold quo; rw [if_neg (by omega), if_neg (by omega)]
theorem ratio_out {n d : Int} (h : d < 1 ∨ 4611686018427387904 < d ∨ n < 1) : ratio n d = 0 := by unfold ratio; rw [if_pos h]
theorem ratio_one {n d : Int} (h1 : 1 ≤ d) (h2 : d ≤ 4611686018427387904) (h3 : 1 ≤ n) (h : d ≤ n) : ratio n d = 65536 := by
  unfold ratio; rw [if_neg (by omega), if_pos h]
theorem ratio_low {n d : Int} (h2 : d ≤ 4611686018427387904) (h3 : 1 ≤ n) (h : n < d) (h4 : d < 70368744177664) : ratio n d = rdiv (n * 65536) d := by
  unfold ratio; rw [if_neg (by omega), if_neg (by omega), if_pos h4]
theorem ratio_high {n d : Int} (h2 : d ≤ 4611686018427387904) (h3 : 1 ≤ n) (h : n < d) (h4 : 70368744177664 ≤ d) : ratio n d = min 65536 (rdiv n (rdiv d 65536)) := by
  unfold ratio; rw [if_neg (by omega), if_neg (by omega), if_neg (by omega)]
theorem clamp_low {x low high : Int} (h : high < low ∨ x < low) : clamp x low high = low := by unfold clamp; rw [if_pos h]
theorem clamp_high {x low high : Int} (h1 : low ≤ high) (h2 : low ≤ x) (h : high < x) : clamp x low high = high := by unfold clamp; rw [if_neg (by omega), if_pos h]
theorem clamp_in {x low high : Int} (h1 : low ≤ high) (h2 : low ≤ x) (h : x ≤ high) : clamp x low high = x := by unfold clamp; rw [if_neg (by omega), if_neg (by omega)]

end Go.Proofs.YtdmcdicphohlfaaGreat.Fx

set_option linter.unusedVariables false
namespace Go.Proofs.YtdmcdicphohlfaaGreat.Fx

theorem rpos_near {m d : Int} (hm : 0 ≤ m) (hd : 1 ≤ d) : 2 * (m - rpos m d * d) ≤ d ∧ 2 * (rpos m d * d - m) ≤ d := by
  have he := euclid m d hd
  unfold rpos
  split
  · rw [Int.add_mul]; omega
  · omega
theorem rcore_near {n d : Int} (hd : 1 ≤ d) : 2 * (n - rcore n d * d) ≤ d ∧ 2 * (rcore n d * d - n) ≤ d := by
  unfold rcore
  split
  · have := rpos_near (m := -n) (d := d) (by omega) hd
    rw [Int.neg_mul]; omega
  · exact rpos_near (by omega) hd
theorem rcore_one (x d : Int) (hd : 1 ≤ d) : rcore (x * d) d = x := by
  have h0 : x * d / d = x := Int.mul_ediv_cancel x (by omega)
  have h1 : -(x * d) / d = -x := by rw [← Int.neg_mul]; exact Int.mul_ediv_cancel (-x) (by omega)
  have m0 : x * d % d = 0 := Int.mul_emod_left x d
  have m1 : -(x * d) % d = 0 := by rw [← Int.neg_mul]; exact Int.mul_emod_left (-x) d
  unfold rcore rpos
  rw [h0, h1, m0, m1]
  split
  · rw [if_neg (by omega)]; omega
  · rw [if_neg (by omega)]
theorem add_comm (a b : Int) : add a b = add b a := by unfold add; rw [Int.add_comm]
theorem mul_comm (a b : Int) : mul a b = mul b a := by unfold mul; rw [Int.mul_comm]
theorem sat_one : sat 65536 = 65536 := by decide +kernel
theorem sat_zero : sat 0 = 0 := by decide +kernel
theorem rdiv_one (a : Int) : rdiv (sat a * 65536) 65536 = sat a := by
  have h1 := sat_le a; have h2 := sat_ge a
  rw [rdiv_in (by omega) (by omega) (by omega) (by omega)]; exact rcore_one _ _ (by omega)
theorem mul_one (a : Int) : mul a 65536 = sat a := by unfold mul; rw [sat_one, rdiv_one, sat_sat]
theorem add_zero (a : Int) : add a 0 = sat a := by unfold add; rw [sat_zero, Int.add_zero, sat_sat]
theorem mul_zero (a : Int) : mul a 0 = 0 := by
  unfold mul; rw [sat_zero, Int.mul_zero]; decide +kernel
theorem add_sat (a b : Int) : sat (add a b) = add a b := by unfold add; rw [sat_sat]
theorem lerp_sat (a b t : Int) : sat (lerp a b t) = lerp a b t := by unfold lerp; exact add_sat _ _
end Go.Proofs.YtdmcdicphohlfaaGreat.Fx

set_option linter.unusedVariables false
namespace Go.Proofs.YtdmcdicphohlfaaGreat.Fx

def sqN : Nat → Nat
  | 0 => 0
  | n + 1 => if (sqN n + 1) * (sqN n + 1) ≤ n + 1 then sqN n + 1 else sqN n
theorem sqN_is : ∀ n : Nat, sqN n * sqN n ≤ n ∧ n < (sqN n + 1) * (sqN n + 1) := by
  intro n
  induction n with
  | zero => simp [sqN]
  | succ n ih =>
    unfold sqN
    split
    · rename_i h
      refine ⟨h, ?_⟩
      have : (sqN n + 1 + 1) * (sqN n + 1 + 1) = (sqN n + 1) * (sqN n + 1) + 2 * (sqN n + 1) + 1 := by
        rw [Nat.add_mul, Nat.mul_add]; omega
      omega
    · omega
def isq (n : Int) : Int := if n < 0 ∨ 4611686018427387904 < n then 0 else (sqN n.toNat : Nat)
theorem isq_out {n : Int} (h : n < 0 ∨ 4611686018427387904 < n) : isq n = 0 := by unfold isq; rw [if_pos h]

theorem sq_unique {a b n : Int} (ha : 0 ≤ a) (hb : 0 ≤ b) (h1 : a * a ≤ n) (h2 : n < (b + 1) * (b + 1)) : a ≤ b := by
  false_or_by_contra
  have h : b + 1 ≤ a := by omega
  have := Int.mul_le_mul h h (by omega) (by omega)
  omega
theorem isq_eq {n r : Int} (h0 : 0 ≤ n) (h1 : n ≤ 4611686018427387904) (hr : 0 ≤ r) (ha : r * r ≤ n) (hb : n < (r + 1) * (r + 1)) : isq n = r := by
  unfold isq
  rw [if_neg (by omega)]
  have hs := sqN_is n.toNat
  have k1 : ((sqN n.toNat : Nat) : Int) * (sqN n.toNat : Nat) ≤ n := by
    have : ((sqN n.toNat * sqN n.toNat : Nat) : Int) ≤ (n.toNat : Nat) := Int.ofNat_le.2 hs.1
    rw [Int.natCast_mul] at this; omega
  have k2 : n < (((sqN n.toNat : Nat) : Int) + 1) * ((sqN n.toNat : Nat) + 1) := by
    have : ((n.toNat : Nat) : Int) < (((sqN n.toNat + 1) * (sqN n.toNat + 1) : Nat) : Int) := Int.ofNat_lt.2 hs.2
    rw [Int.natCast_mul] at this; push_cast at this; omega
  have a1 := sq_unique (by omega) hr k1 hb
  have a2 := sq_unique hr (by omega) ha k2
  omega
theorem isq_is {n : Int} (h0 : 0 ≤ n) (h1 : n ≤ 4611686018427387904) : 0 ≤ isq n ∧ isq n * isq n ≤ n ∧ n < (isq n + 1) * (isq n + 1) := by
  have hs := sqN_is n.toNat
  have k0 : isq n = ((sqN n.toNat : Nat) : Int) := by unfold isq; rw [if_neg (by omega)]
  have k1 : ((sqN n.toNat : Nat) : Int) * (sqN n.toNat : Nat) ≤ n := by
    have : ((sqN n.toNat * sqN n.toNat : Nat) : Int) ≤ (n.toNat : Nat) := Int.ofNat_le.2 hs.1
    rw [Int.natCast_mul] at this; omega
  have k2 : n < (((sqN n.toNat : Nat) : Int) + 1) * ((sqN n.toNat : Nat) + 1) := by
    have : ((n.toNat : Nat) : Int) < (((sqN n.toNat + 1) * (sqN n.toNat + 1) : Nat) : Int) := Int.ofNat_lt.2 hs.2
    rw [Int.natCast_mul] at this; push_cast at this; omega
  rw [k0]; exact ⟨by omega, k1, k2⟩
theorem newton {n r : Int} (h0 : 0 ≤ n) (hr : 1 ≤ r) : n < ((r + n / r) / 2 + 1) * ((r + n / r) / 2 + 1) := by
  have he := euclid n r hr
  have hq : 0 ≤ n / r := Int.ediv_nonneg h0 (by omega)
  have h1 : r + n / r + 1 ≤ 2 * ((r + n / r) / 2 + 1) := by omega
  have h2 := Int.mul_le_mul h1 h1 (by omega) (by omega)
  generalize hx : (r + n / r) / 2 + 1 = x at *
  generalize n / r = q at *
  have e1 : 2 * x * (2 * x) = 4 * (x * x) := by
    rw [Int.mul_assoc, Int.mul_left_comm x 2 x]; omega
  have e2 : (r + q + 1) * (r + q + 1) = (r - (q + 1)) * (r - (q + 1)) + 4 * (q * r + r) := by
    have a1 : (r + q + 1) * (r + q + 1) = r * r + q * q + 1 + 2 * (q * r) + 2 * r + 2 * q := by
      simp only [Int.add_mul, Int.mul_add, Int.mul_one, Int.one_mul, Int.mul_comm r q]; omega
    have a2 : (r - (q + 1)) * (r - (q + 1)) = r * r + q * q + 1 - 2 * (q * r) - 2 * r + 2 * q := by
      simp only [Int.sub_mul, Int.mul_sub, Int.add_mul, Int.mul_add, Int.mul_one, Int.one_mul, Int.mul_comm r q]; omega
    omega
  have e3 : 0 ≤ (r - (q + 1)) * (r - (q + 1)) := by
    rcases Int.le_total 0 (r - (q + 1)) with h | h
    · exact Int.mul_nonneg h h
    · exact Int.mul_nonneg_of_nonpos_of_nonpos h h
  omega
theorem div_ge {n r : Int} (hr : 1 ≤ r) (h : r ≤ n / r) : r * r ≤ n := by
  have he := euclid n r hr
  have := Int.mul_le_mul_of_nonneg_right h (by omega : 0 ≤ r)
  omega
theorem sq_pos {n x : Int} (hn : 1 ≤ n) (hx : 0 ≤ x) (h : n < (x + 1) * (x + 1)) : 1 ≤ x := by
  false_or_by_contra
  have : x = 0 := by omega
  subst this; omega

theorem lt_bitLenAux : ∀ (f x : Nat), x < 2 ^ f → x < 2 ^ Lib.bitLenAux f x := by
  intro f
  induction f with
  | zero => intro x h; simpa [Lib.bitLenAux] using h
  | succ f ih =>
    intro x h
    unfold Lib.bitLenAux
    split
    · subst_vars; simp
    · have h2 : x / 2 < 2 ^ f := by rw [Nat.pow_succ] at h; omega
      have := ih (x / 2) h2
      rw [Nat.add_comm, Nat.pow_succ]; omega
theorem lt_bitLen (x : Nat) (h : x < 2 ^ 64) : x < 2 ^ Lib.bitLen x := lt_bitLenAux 64 x h

theorem start_sq (n : Nat) (h : n ≤ 4611686018427387904) : (n : Int) < ((2 : Int) ^ ((Lib.bitLen n + 1) / 2) + 1) * ((2 : Int) ^ ((Lib.bitLen n + 1) / 2) + 1) ∧ (Lib.bitLen n + 1) / 2 ≤ 32 := by
  have h1 := lt_bitLen n (by omega)
  have h2 := Lib.bitLen_le n 63 (by omega) (by omega)
  refine ⟨?_, by omega⟩
  have h3 : n < 2 ^ ((Lib.bitLen n + 1) / 2) * 2 ^ ((Lib.bitLen n + 1) / 2) := by
    rw [← Nat.pow_add]
    exact Nat.lt_of_lt_of_le h1 (Nat.pow_le_pow_right (by omega) (by omega))
  have h4 : (n : Int) < (2 : Int) ^ ((Lib.bitLen n + 1) / 2) * (2 : Int) ^ ((Lib.bitLen n + 1) / 2) := by
    have := Int.ofNat_lt.2 h3
    push_cast at this; exact this
  have h5 : (0 : Int) ≤ (2 : Int) ^ ((Lib.bitLen n + 1) / 2) := Int.pow_nonneg (by omega)
  have h6 : ((2 : Int) ^ ((Lib.bitLen n + 1) / 2) + 1) * ((2 : Int) ^ ((Lib.bitLen n + 1) / 2) + 1) = (2 : Int) ^ ((Lib.bitLen n + 1) / 2) * (2 : Int) ^ ((Lib.bitLen n + 1) / 2) + 2 * (2 : Int) ^ ((Lib.bitLen n + 1) / 2) + 1 := by
    rw [Int.add_mul, Int.mul_add]; omega
  omega
theorem pow_between (k : Nat) (h : k ≤ 32) : 1 ≤ (2 : Int) ^ k ∧ (2 : Int) ^ k ≤ 4294967296 := by
  have h1 : (2 : Nat) ^ k ≤ 2 ^ 32 := Nat.pow_le_pow_right (by omega) h
  have h2 : 1 ≤ (2 : Nat) ^ k := Nat.one_le_two_pow
  have h3 : ((2 ^ k : Nat) : Int) = (2 : Int) ^ k := by push_cast; rfl
  omega

def SqInv (n r b : Int) : Prop := ∃ k : Nat, b = 2 ^ k / 2 ∧ r + 2 ^ k ≤ 4294967296 ∧ 0 ≤ r ∧ r * r ≤ n ∧ n < (r + 2 ^ k) * (r + 2 ^ k)
theorem SqInv.start {n : Int} (h0 : 0 ≤ n) (h1 : n ≤ 4611686018427387904) : SqInv n 0 2147483648 := by
  have e : (0 + (2 : Int) ^ 32) * (0 + (2 : Int) ^ 32) = 18446744073709551616 := by decide
  exact ⟨32, by decide, by decide, by omega, by omega, by rw [e]; omega⟩
theorem SqInv.bounds {n r b : Int} (h : SqInv n r b) : 0 ≤ r ∧ 0 ≤ b ∧ r + 2 * b ≤ 4294967296 := by
  obtain ⟨k, h1, h2, h3, h4, h5⟩ := h
  have : (0 : Int) ≤ 2 ^ k := Int.pow_nonneg (by omega)
  omega
theorem SqInv.half {k : Nat} {b : Int} (hb : 0 < b) (h : b = 2 ^ k / 2) : ∃ j : Nat, k = j + 1 ∧ (2 : Int) ^ k = 2 * b ∧ (2 : Int) ^ j = b := by
  cases k with
  | zero => simp at h; omega
  | succ j =>
    have e : (2 : Int) ^ (j + 1) = 2 ^ j * 2 := Int.pow_succ 2 j
    exact ⟨j, rfl, by omega, by omega⟩
theorem SqInv.take {n r b : Int} (h : SqInv n r b) (hb : 0 < b) (hc : r + b ≤ n / (r + b)) : SqInv n (r + b) (b / 2) := by
  obtain ⟨k, h1, h2, h3, h4, h5⟩ := h
  obtain ⟨j, rfl, e1, e2⟩ := SqInv.half hb h1
  rw [e1] at h2 h5
  refine ⟨j, by rw [e2], by rw [e2]; omega, by omega, div_ge (by omega) hc, ?_⟩
  rw [e2, show r + b + b = r + 2 * b from by omega]; exact h5
theorem SqInv.skip {n r b : Int} (h : SqInv n r b) (hb : 0 < b) (hc : n / (r + b) < r + b) : SqInv n r (b / 2) := by
  obtain ⟨k, h1, h2, h3, h4, h5⟩ := h
  obtain ⟨j, rfl, e1, e2⟩ := SqInv.half hb h1
  rw [e1] at h2 h5
  refine ⟨j, by rw [e2], by rw [e2]; omega, h3, h4, ?_⟩
  rw [e2]
  false_or_by_contra
  have := (Int.le_ediv_iff_mul_le (a := r + b) (b := n) (c := r + b) (by omega)).2 (by omega)
  omega
theorem SqInv.done {n r b : Int} (h : SqInv n r b) (h0 : 0 ≤ n) (h1 : n ≤ 4611686018427387904) (hb : b ≤ 0) : isq n = r := by
  obtain ⟨k, e, h2, h3, h4, h5⟩ := h
  have hk : (2 : Int) ^ k = 1 := by
    cases k with
    | zero => rfl
    | succ j =>
      have e1 : (2 : Int) ^ (j + 1) = 2 ^ j * 2 := Int.pow_succ 2 j
      have e2 : (0 : Int) < 2 ^ j := Int.pow_pos (by omega)
      omega
  rw [hk] at h5
  exact isq_eq h0 h1 h3 h4 h5

end Go.Proofs.YtdmcdicphohlfaaGreat.Fx

set_option linter.unusedVariables false
namespace Go.Proofs.YtdmcdicphohlfaaGreat.Fx

def dot (ax ay bx b_y : Int) : Int := sat (rdiv (sat ax * sat bx + sat ay * sat b_y) 65536)
def cross (ax ay bx b_y : Int) : Int := sat (rdiv (sat ax * sat b_y - sat ay * sat bx) 65536)
def vlen (x y : Int) : Int := isq (sat x * sat x + sat y * sat y)
def rotx (c s x y : Int) : Int := sat (rdiv (sat c * sat x - sat s * sat y) 65536)
def roty (c s x y : Int) : Int := sat (rdiv (sat s * sat x + sat c * sat y) 65536)
def det (ax ay bx b_y cx cy : Int) : Int := (sat bx - sat ax) * (sat cy - sat ay) - (sat b_y - sat ay) * (sat cx - sat ax)
def sgn (n : Int) : Int := if 0 < n then 1 else if n < 0 then -1 else 0
def orient (ax ay bx b_y cx cy : Int) : Int := sgn (det ax ay bx b_y cx cy)
def dist2 (ax ay bx b_y : Int) : Int := (sat bx - sat ax) * (sat bx - sat ax) + (sat b_y - sat ay) * (sat b_y - sat ay)

theorem sgn_pos {n : Int} (h : 0 < n) : sgn n = 1 := by unfold sgn; rw [if_pos h]
theorem sgn_neg {n : Int} (h : n < 0) : sgn n = -1 := by unfold sgn; rw [if_neg (by omega), if_pos h]
theorem sgn_zero {n : Int} (h1 : ¬ 0 < n) (h2 : ¬ n < 0) : sgn n = 0 := by unfold sgn; rw [if_neg h1, if_neg h2]
theorem diffmul {a b c d : Int} : -4611686014132420609 ≤ (sat a - sat b) * (sat c - sat d) ∧ (sat a - sat b) * (sat c - sat d) ≤ 4611686014132420609 := by
  have h1 := sat_le a; have h2 := sat_ge a; have h3 := sat_le b; have h4 := sat_ge b; have h5 := sat_le c; have h6 := sat_ge c; have h7 := sat_le d; have h8 := sat_ge d
  have := mul_between (a := sat a - sat b) (b := sat c - sat d) (A := 1073741822) (B := 1073741822) (by omega) (by omega) (by omega) (by omega)
  omega

end Go.Proofs.YtdmcdicphohlfaaGreat.Fx

set_option linter.unusedVariables false
namespace Go.Proofs.YtdmcdicphohlfaaGreat.Fx

theorem sq_nn (x : Int) : 0 ≤ x * x := by
  rcases Int.le_total 0 x with h | h
  · exact Int.mul_nonneg h h
  · exact Int.mul_nonneg_of_nonpos_of_nonpos h h
theorem sgn_ge (n : Int) : -1 ≤ sgn n := by unfold sgn; split <;> (try split) <;> omega
theorem sgn_le (n : Int) : sgn n ≤ 1 := by unfold sgn; split <;> (try split) <;> omega
theorem or_ge (ax ay bx b_y cx cy : Int) : -1 ≤ orient ax ay bx b_y cx cy := sgn_ge _
theorem or_le (ax ay bx b_y cx cy : Int) : orient ax ay bx b_y cx cy ≤ 1 := sgn_le _
theorem rdiv_neg (n : Int) : rdiv (-n) 65536 = -rdiv n 65536 := by
  by_cases h : -4611686018427387904 ≤ n ∧ n ≤ 4611686018427387904
  · rw [rdiv_in (by omega) (by omega) (by omega) (by omega), rdiv_in (by omega) (by omega) h.1 h.2]; exact rcore_neg _ _ (by omega)
  · rw [rdiv_out (by omega), rdiv_out (by omega)]; rfl
theorem cross_ge (ax ay bx b_y : Int) : -536870911 ≤ cross ax ay bx b_y := sat_ge _
theorem cross_le (ax ay bx b_y : Int) : cross ax ay bx b_y ≤ 536870911 := sat_le _
theorem vlen_is (x y : Int) : 0 ≤ vlen x y ∧ vlen x y ≤ 1073741823 ∧ vlen x y * vlen x y ≤ sat x * sat x + sat y * sat y ∧ sat x * sat x + sat y * sat y < (vlen x y + 1) * (vlen x y + 1) := by
  have h1 := satmul x x; have h2 := satmul y y; have h3 := sq_nn (sat x); have h4 := sq_nn (sat y)
  have h := isq_is (n := sat x * sat x + sat y * sat y) (by omega) (by omega)
  have e : vlen x y = isq (sat x * sat x + sat y * sat y) := rfl
  rw [← e] at h
  exact ⟨h.1, sq_unique (n := sat x * sat x + sat y * sat y) h.1 (by omega) h.2.1 (by omega), h.2.1, h.2.2⟩
theorem vlen_sum (x y : Int) : vlen x y ≤ max (sat x) (-sat x) + max (sat y) (-sat y) := by
  obtain ⟨h0, _, h2, _⟩ := vlen_is x y
  have hx : max (sat x) (-sat x) * max (sat x) (-sat x) = sat x * sat x := by
    rcases Int.le_total 0 (sat x) with h | h
    · rw [show max (sat x) (-sat x) = sat x from by omega]
    · rw [show max (sat x) (-sat x) = -sat x from by omega]; grind
  have hy : max (sat y) (-sat y) * max (sat y) (-sat y) = sat y * sat y := by
    rcases Int.le_total 0 (sat y) with h | h
    · rw [show max (sat y) (-sat y) = sat y from by omega]
    · rw [show max (sat y) (-sat y) = -sat y from by omega]; grind
  have px : 0 ≤ max (sat x) (-sat x) := by omega
  have py : 0 ≤ max (sat y) (-sat y) := by omega
  generalize max (sat x) (-sat x) = p at *
  generalize max (sat y) (-sat y) = q at *
  have pq : 0 ≤ p * q := Int.mul_nonneg px py
  have e : (p + q + 1) * (p + q + 1) = p * p + q * q + 2 * (p * q) + 2 * p + 2 * q + 1 := by grind
  exact sq_unique (n := sat x * sat x + sat y * sat y) h0 (by omega) h2 (by omega)

end Go.Proofs.YtdmcdicphohlfaaGreat.Fx

set_option linter.unusedVariables false
namespace Go.Proofs.YtdmcdicphohlfaaGreat.Fx

structure Bx where
  x0 : Int
  y0 : Int
  x1 : Int
  y1 : Int
  deriving DecidableEq, Inhabited

def Bx.zero : Bx := ⟨0, 0, 0, 0⟩
def Bx.ok (b : Bx) : Prop := b.x0 ≤ b.x1 ∧ b.y0 ≤ b.y1 ∧ b.x0 = sat b.x0 ∧ b.y0 = sat b.y0 ∧ b.x1 = sat b.x1 ∧ b.y1 = sat b.y1
instance (b : Bx) : Decidable b.ok := by unfold Bx.ok; exact inferInstance
def Bx.val (b : Bx) : Bool := decide b.ok
theorem Bx.val_iff {b : Bx} : b.val = true ↔ b.ok := by simp [Bx.val]
theorem Bx.val_not {b : Bx} : b.val = false ↔ ¬ b.ok := by simp [Bx.val]

theorem seven (p1 p2 p3 p4 p5 p6 : Prop) : (¬ (p1 ∧ p2 ∧ p3 ∧ p4 ∧ p5 ∧ p6) ∧ ¬ p1) ∨ (¬ (p1 ∧ p2 ∧ p3 ∧ p4 ∧ p5 ∧ p6) ∧ p1 ∧ ¬ p2) ∨ (¬ (p1 ∧ p2 ∧ p3 ∧ p4 ∧ p5 ∧ p6) ∧ p1 ∧ p2 ∧ ¬ p3) ∨
    (¬ (p1 ∧ p2 ∧ p3 ∧ p4 ∧ p5 ∧ p6) ∧ p1 ∧ p2 ∧ p3 ∧ ¬ p4) ∨ (¬ (p1 ∧ p2 ∧ p3 ∧ p4 ∧ p5 ∧ p6) ∧ p1 ∧ p2 ∧ p3 ∧ p4 ∧ ¬ p5) ∨ (¬ (p1 ∧ p2 ∧ p3 ∧ p4 ∧ p5 ∧ p6) ∧ p1 ∧ p2 ∧ p3 ∧ p4 ∧ p5 ∧ ¬ p6) ∨ ((p1 ∧ p2 ∧ p3 ∧ p4 ∧ p5 ∧ p6) ∧ p1 ∧ p2 ∧ p3 ∧ p4 ∧ p5 ∧ p6) := by
  by_cases h1 : p1 <;> by_cases h2 : p2 <;> by_cases h3 : p3 <;> by_cases h4 : p4 <;> by_cases h5 : p5 <;> by_cases h6 : p6 <;> simp [h1, h2, h3, h4, h5, h6]
theorem Bx.val_cases (b : Bx) :
    (b.val = false ∧ decide (b.x0 ≤ b.x1) = false) ∨ (b.val = false ∧ decide (b.x0 ≤ b.x1) = true ∧ decide (b.y0 ≤ b.y1) = false) ∨
    (b.val = false ∧ decide (b.x0 ≤ b.x1) = true ∧ decide (b.y0 ≤ b.y1) = true ∧ (b.x0 == sat b.x0) = false) ∨
    (b.val = false ∧ decide (b.x0 ≤ b.x1) = true ∧ decide (b.y0 ≤ b.y1) = true ∧ (b.x0 == sat b.x0) = true ∧ (b.y0 == sat b.y0) = false) ∨
    (b.val = false ∧ decide (b.x0 ≤ b.x1) = true ∧ decide (b.y0 ≤ b.y1) = true ∧ (b.x0 == sat b.x0) = true ∧ (b.y0 == sat b.y0) = true ∧ (b.x1 == sat b.x1) = false) ∨
    (b.val = false ∧ decide (b.x0 ≤ b.x1) = true ∧ decide (b.y0 ≤ b.y1) = true ∧ (b.x0 == sat b.x0) = true ∧ (b.y0 == sat b.y0) = true ∧ (b.x1 == sat b.x1) = true ∧ (b.y1 == sat b.y1) = false) ∨
    (b.val = true ∧ decide (b.x0 ≤ b.x1) = true ∧ decide (b.y0 ≤ b.y1) = true ∧ (b.x0 == sat b.x0) = true ∧ (b.y0 == sat b.y0) = true ∧ (b.x1 == sat b.x1) = true ∧ (b.y1 == sat b.y1) = true) := by
  simp only [Bx.val_iff, Bx.val_not, decide_eq_true_eq, decide_eq_false_iff_not, beq_iff_eq, beq_eq_false_iff_ne, Bx.ok, ne_eq]
  exact seven ..

def Bx.one (p : Int × Int) : Bx := ⟨sat p.1, sat p.2, sat p.1, sat p.2⟩
def Bx.step (b : Bx) (p : Int × Int) : Bx := ⟨min b.x0 (sat p.1), min b.y0 (sat p.2), max b.x1 (sat p.1), max b.y1 (sat p.2)⟩
def Bx.pts : List (Int × Int) → Bx
  | [] => Bx.zero
  | p :: ps => ps.foldl Bx.step (Bx.one p)
theorem Bx.pts_succ {ps : List (Int × Int)} {k : Nat} (h1 : 1 ≤ k) (hk : k < ps.length) : Bx.pts (ps.take (k + 1)) = (Bx.pts (ps.take k)).step ps[k] := by
  cases ps with
  | nil => simp at hk
  | cons p ps =>
    obtain ⟨k, rfl⟩ : ∃ j, k = j + 1 := ⟨k - 1, by omega⟩
    have hk' : k < ps.length := by simpa using hk
    simp only [List.take_succ_cons, Bx.pts, List.getElem_cons_succ]
    rw [List.take_add_one, List.getElem?_eq_getElem hk', List.foldl_append]
    rfl
theorem Bx.pts_one {ps : List (Int × Int)} (h : 0 < ps.length) : Bx.pts (ps.take 1) = Bx.one ps[0] := by
  cases ps with
  | nil => simp at h
  | cons p ps => simp [Bx.pts]

def Bx.uni (a b : Bx) : Bx := if a.val then (if b.val then ⟨min a.x0 b.x0, min a.y0 b.y0, max a.x1 b.x1, max a.y1 b.y1⟩ else a) else if b.val then b else Bx.zero
def Bx.ovl (a b : Bx) : Bool := a.val && b.val && decide (a.x0 ≤ b.x1) && decide (b.x0 ≤ a.x1) && decide (a.y0 ≤ b.y1) && decide (b.y0 ≤ a.y1)
def Bx.con (a b : Bx) : Bool := a.val && b.val && decide (a.x0 ≤ b.x0) && decide (b.x1 ≤ a.x1) && decide (a.y0 ≤ b.y0) && decide (b.y1 ≤ a.y1)
def Bx.has (b : Bx) (x y : Int) : Bool := b.val && decide (b.x0 ≤ sat x) && decide (sat x ≤ b.x1) && decide (b.y0 ≤ sat y) && decide (sat y ≤ b.y1)
def Bx.mar (b : Bx) (m : Int) : Bx := ⟨sub b.x0 m, sub b.y0 m, add b.x1 m, add b.y1 m⟩
def Bx.exp (b : Bx) (m : Int) : Bx := if b.val && (b.mar m).val then b.mar m else Bx.zero
def Bx.hp (b : Bx) : Int := if b.val then add (sub b.x1 b.x0) (sub b.y1 b.y0) else 0

theorem Bx.uni4 {ax0 ay0 ax1 ay1 bx0 by0 bx1 by1 : Int} (h1 : (Bx.mk ax0 ay0 ax1 ay1).val = true) (h2 : (Bx.mk bx0 by0 bx1 by1).val = true) : Bx.uni ⟨ax0, ay0, ax1, ay1⟩ ⟨bx0, by0, bx1, by1⟩ =
    ⟨min (min (min (sat ax0) (sat ax1)) (sat bx0)) (sat bx1), min (min (min (sat ay0) (sat ay1)) (sat by0)) (sat by1), max (max (max (sat ax0) (sat ax1)) (sat bx0)) (sat bx1), max (max (max (sat ay0) (sat ay1)) (sat by0)) (sat by1)⟩ := by
  obtain ⟨p1, p2, p3, p4, p5, p6⟩ := Bx.val_iff.1 h1
  obtain ⟨q1, q2, q3, q4, q5, q6⟩ := Bx.val_iff.1 h2
  simp only [Bx.uni, h1, h2, if_true]
  simp only at p1 p2 p3 p4 p5 p6 q1 q2 q3 q4 q5 q6
  rw [← p3, ← p4, ← p5, ← p6, ← q3, ← q4, ← q5, ← q6]
  simp only [Bx.mk.injEq]
  omega

def Bx.cx (b : Bx) (k : Nat) : Int := if k = 1 ∨ k = 2 then b.x1 else b.x0
def Bx.cy (b : Bx) (k : Nat) : Int := if k = 2 ∨ k = 3 then b.y1 else b.y0
def Bx.two (fx fy tx ty : Int) : Bx := ⟨min (sat fx) (sat tx), min (sat fy) (sat ty), max (sat fx) (sat tx), max (sat fy) (sat ty)⟩
/-! The same with the numbers one by one (a structure that is written out is no fit pattern for simp where its parts are another's projections). -/
def val4 (a0 a1 a2 a3 : Int) : Bool := (Bx.mk a0 a1 a2 a3).val
def ovl8 (a0 a1 a2 a3 b0 b1 b2 b3 : Int) : Bool := Bx.ovl ⟨a0, a1, a2, a3⟩ ⟨b0, b1, b2, b3⟩
def con8 (a0 a1 a2 a3 b0 b1 b2 b3 : Int) : Bool := Bx.con ⟨a0, a1, a2, a3⟩ ⟨b0, b1, b2, b3⟩
theorem val4_eq (a0 a1 a2 a3 : Int) : (Bx.mk a0 a1 a2 a3).val = val4 a0 a1 a2 a3 := rfl

end Go.Proofs.YtdmcdicphohlfaaGreat.Fx
