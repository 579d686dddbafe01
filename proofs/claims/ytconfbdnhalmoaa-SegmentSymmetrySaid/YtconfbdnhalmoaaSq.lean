/- Plain mathematics of integer square roots: the function isq, what determines it, and one step of Newton's iteration. No program is imported. -/
import Derived.Test.YtconfbdnhalmoaaFx
import Derived.Lib.BitFns
set_option linter.unusedVariables false
namespace Go.Proofs.Ytconfbdnhalmoaa.Fx

def sqN : Nat → Nat
  | 0 => 0
  | n + 1 => if (sqN n + 1) * (sqN n + 1) ≤ n + 1 then sqN n + 1 else sqN n
theorem sqN_is : ∀ n : Nat, sqN n * sqN n ≤ n ∧ n < (sqN n + 1) * (sqN n + 1) := by
  intro n
  induction n with
  | zero => simp [sqN]
  | succ n ih =>
    unfold sqN
    split
    · rename_i h
      refine ⟨h, ?_⟩
      have : (sqN n + 1 + 1) * (sqN n + 1 + 1) = (sqN n + 1) * (sqN n + 1) + 2 * (sqN n + 1) + 1 := by
        rw [Nat.add_mul, Nat.mul_add]; omega
      omega
    · omega
def isq (n : Int) : Int := if n < 0 ∨ 4611686018427387904 < n then 0 else (sqN n.toNat : Nat)
theorem isq_out {n : Int} (h : n < 0 ∨ 4611686018427387904 < n) : isq n = 0 := by unfold isq; rw [if_pos h]

theorem sq_unique {a b n : Int} (ha : 0 ≤ a) (hb : 0 ≤ b) (h1 : a * a ≤ n) (h2 : n < (b + 1) * (b + 1)) : a ≤ b := by
  false_or_by_contra
  have h : b + 1 ≤ a := by omega
  have := Int.mul_le_mul h h (by omega) (by omega)
  omega
theorem isq_eq {n r : Int} (h0 : 0 ≤ n) (h1 : n ≤ 4611686018427387904) (hr : 0 ≤ r) (ha : r * r ≤ n) (hb : n < (r + 1) * (r + 1)) : isq n = r := by
  unfold isq
  rw [if_neg (by omega)]
  have hs := sqN_is n.toNat
  have k1 : ((sqN n.toNat : Nat) : Int) * (sqN n.toNat : Nat) ≤ n := by
    have : ((sqN n.toNat * sqN n.toNat : Nat) : Int) ≤ (n.toNat : Nat) := Int.ofNat_le.2 hs.1
    rw [Int.natCast_mul] at this; omega
  have k2 : n < (((sqN n.toNat : Nat) : Int) + 1) * ((sqN n.toNat : Nat) + 1) := by
    have : ((n.toNat : Nat) : Int) < (((sqN n.toNat + 1) * (sqN n.toNat + 1) : Nat) : Int) := Int.ofNat_lt.2 hs.2
    rw [Int.natCast_mul] at this; push_cast at this; omega
  have a1 := sq_unique (by omega) hr k1 hb
  have a2 := sq_unique hr (by omega) ha k2
  omega
theorem isq_is {n : Int} (h0 : 0 ≤ n) (h1 : n ≤ 4611686018427387904) : 0 ≤ isq n ∧ isq n * isq n ≤ n ∧ n < (isq n + 1) * (isq n + 1) := by
  have hs := sqN_is n.toNat
  have k0 : isq n = ((sqN n.toNat : Nat) : Int) := by unfold isq; rw [if_neg (by omega)]
  have k1 : ((sqN n.toNat : Nat) : Int) * (sqN n.toNat : Nat) ≤ n := by
    have : ((sqN n.toNat * sqN n.toNat : Nat) : Int) ≤ (n.toNat : Nat) := Int.ofNat_le.2 hs.1
    rw [Int.natCast_mul] at this; omega
  have k2 : n < (((sqN n.toNat : Nat) : Int) + 1) * ((sqN n.toNat : Nat) + 1) := by
    have : ((n.toNat : Nat) : Int) < (((sqN n.toNat + 1) * (sqN n.toNat + 1) : Nat) : Int) := Int.ofNat_lt.2 hs.2
    rw [Int.natCast_mul] at this; push_cast at this; omega
  rw [k0]; exact ⟨by omega, k1, k2⟩
theorem isq_le {n : Int} (h0 : 0 ≤ n) (h1 : n ≤ 4611686018427387904) : isq n ≤ 2147483648 := by
  have h := isq_is h0 h1
  exact sq_unique (n := 4611686018427387904) h.1 (by omega) (by omega) (by decide)

/-- Newton's step: from any root of at least 1 the next one is not below the square root. -/
theorem newton {n r : Int} (h0 : 0 ≤ n) (hr : 1 ≤ r) : n < ((r + n / r) / 2 + 1) * ((r + n / r) / 2 + 1) := by
  have he := euclid n r hr
  have hq : 0 ≤ n / r := Int.ediv_nonneg h0 (by omega)
  have h1 : r + n / r + 1 ≤ 2 * ((r + n / r) / 2 + 1) := by omega
  have h2 := Int.mul_le_mul h1 h1 (by omega) (by omega)
  generalize hx : (r + n / r) / 2 + 1 = x at *
  generalize n / r = q at *
  have e1 : 2 * x * (2 * x) = 4 * (x * x) := by
    rw [Int.mul_assoc, Int.mul_left_comm x 2 x]; omega
  have e2 : (r + q + 1) * (r + q + 1) = (r - (q + 1)) * (r - (q + 1)) + 4 * (q * r + r) := by
    have a1 : (r + q + 1) * (r + q + 1) = r * r + q * q + 1 + 2 * (q * r) + 2 * r + 2 * q := by
      simp only [Int.add_mul, Int.mul_add, Int.mul_one, Int.one_mul, Int.mul_comm r q]; omega
    have a2 : (r - (q + 1)) * (r - (q + 1)) = r * r + q * q + 1 - 2 * (q * r) - 2 * r + 2 * q := by
      simp only [Int.sub_mul, Int.mul_sub, Int.add_mul, Int.mul_add, Int.mul_one, Int.one_mul, Int.mul_comm r q]; omega
    omega
  have e3 : 0 ≤ (r - (q + 1)) * (r - (q + 1)) := by
    rcases Int.le_total 0 (r - (q + 1)) with h | h
    · exact Int.mul_nonneg h h
    · exact Int.mul_nonneg_of_nonpos_of_nonpos h h
  omega
theorem div_ge {n r : Int} (hr : 1 ≤ r) (h : r ≤ n / r) : r * r ≤ n := by
  have he := euclid n r hr
  have := Int.mul_le_mul_of_nonneg_right h (by omega : 0 ≤ r)
  omega
theorem sq_pos {n x : Int} (hn : 1 ≤ n) (hx : 0 ≤ x) (h : n < (x + 1) * (x + 1)) : 1 ≤ x := by
  false_or_by_contra
  have : x = 0 := by omega
  subst this; omega

theorem lt_bitLenAux : ∀ (f x : Nat), x < 2 ^ f → x < 2 ^ Lib.bitLenAux f x := by
  intro f
  induction f with
  | zero => intro x h; simpa [Lib.bitLenAux] using h
  | succ f ih =>
    intro x h
    unfold Lib.bitLenAux
    split
    · subst_vars; simp
    · have h2 : x / 2 < 2 ^ f := by rw [Nat.pow_succ] at h; omega
      have := ih (x / 2) h2
      rw [Nat.add_comm, Nat.pow_succ]; omega
theorem lt_bitLen (x : Nat) (h : x < 2 ^ 64) : x < 2 ^ Lib.bitLen x := lt_bitLenAux 64 x h

/-- Newton's start: the power of two of half the bits, rounded up. -/
theorem start_sq (n : Nat) (h : n ≤ 4611686018427387904) : (n : Int) < ((2 : Int) ^ ((Lib.bitLen n + 1) / 2) + 1) * ((2 : Int) ^ ((Lib.bitLen n + 1) / 2) + 1) ∧ (Lib.bitLen n + 1) / 2 ≤ 32 := by
  have h1 := lt_bitLen n (by omega)
  have h2 := Lib.bitLen_le n 63 (by omega) (by omega)
  refine ⟨?_, by omega⟩
  have h3 : n < 2 ^ ((Lib.bitLen n + 1) / 2) * 2 ^ ((Lib.bitLen n + 1) / 2) := by
    rw [← Nat.pow_add]
    exact Nat.lt_of_lt_of_le h1 (Nat.pow_le_pow_right (by omega) (by omega))
  have h4 : (n : Int) < (2 : Int) ^ ((Lib.bitLen n + 1) / 2) * (2 : Int) ^ ((Lib.bitLen n + 1) / 2) := by
    have := Int.ofNat_lt.2 h3
    push_cast at this; exact this
  have h5 : (0 : Int) ≤ (2 : Int) ^ ((Lib.bitLen n + 1) / 2) := Int.pow_nonneg (by omega)
  have h6 : ((2 : Int) ^ ((Lib.bitLen n + 1) / 2) + 1) * ((2 : Int) ^ ((Lib.bitLen n + 1) / 2) + 1) = (2 : Int) ^ ((Lib.bitLen n + 1) / 2) * (2 : Int) ^ ((Lib.bitLen n + 1) / 2) + 2 * (2 : Int) ^ ((Lib.bitLen n + 1) / 2) + 1 := by
    rw [Int.add_mul, Int.mul_add]; omega
  omega
theorem pow_between (k : Nat) (h : k ≤ 32) : 1 ≤ (2 : Int) ^ k ∧ (2 : Int) ^ k ≤ 4294967296 := by
  have h1 : (2 : Nat) ^ k ≤ 2 ^ 32 := Nat.pow_le_pow_right (by omega) h
  have h2 : 1 ≤ (2 : Nat) ^ k := Nat.one_le_two_pow
  have h3 : ((2 ^ k : Nat) : Int) = (2 : Int) ^ k := by push_cast; rfl
  omega

/-- What the search for the bits of the root keeps: r is a root of what has been seen, b the bit that is asked next. -/
def SqInv (n r b : Int) : Prop := ∃ k : Nat, b = 2 ^ k / 2 ∧ r + 2 ^ k ≤ 4294967296 ∧ 0 ≤ r ∧ r * r ≤ n ∧ n < (r + 2 ^ k) * (r + 2 ^ k)
theorem SqInv.start {n : Int} (h0 : 0 ≤ n) (h1 : n ≤ 4611686018427387904) : SqInv n 0 2147483648 := by
  have e : (0 + (2 : Int) ^ 32) * (0 + (2 : Int) ^ 32) = 18446744073709551616 := by decide
  exact ⟨32, by decide, by decide, by omega, by omega, by rw [e]; omega⟩
theorem SqInv.bounds {n r b : Int} (h : SqInv n r b) : 0 ≤ r ∧ 0 ≤ b ∧ r + 2 * b ≤ 4294967296 := by
  obtain ⟨k, h1, h2, h3, h4, h5⟩ := h
  have : (0 : Int) ≤ 2 ^ k := Int.pow_nonneg (by omega)
  omega
theorem SqInv.half {k : Nat} {b : Int} (hb : 0 < b) (h : b = 2 ^ k / 2) : ∃ j : Nat, k = j + 1 ∧ (2 : Int) ^ k = 2 * b ∧ (2 : Int) ^ j = b := by
  cases k with
  | zero => simp at h; omega
  | succ j =>
    have e : (2 : Int) ^ (j + 1) = 2 ^ j * 2 := Int.pow_succ 2 j
    exact ⟨j, rfl, by omega, by omega⟩
theorem SqInv.take {n r b : Int} (h : SqInv n r b) (hb : 0 < b) (hc : r + b ≤ n / (r + b)) : SqInv n (r + b) (b / 2) := by
  obtain ⟨k, h1, h2, h3, h4, h5⟩ := h
  obtain ⟨j, rfl, e1, e2⟩ := SqInv.half hb h1
  rw [e1] at h2 h5
  refine ⟨j, by rw [e2], by rw [e2]; omega, by omega, div_ge (by omega) hc, ?_⟩
  rw [e2, show r + b + b = r + 2 * b from by omega]; exact h5
theorem SqInv.skip {n r b : Int} (h : SqInv n r b) (hb : 0 < b) (hc : n / (r + b) < r + b) : SqInv n r (b / 2) := by
  obtain ⟨k, h1, h2, h3, h4, h5⟩ := h
  obtain ⟨j, rfl, e1, e2⟩ := SqInv.half hb h1
  rw [e1] at h2 h5
  refine ⟨j, by rw [e2], by rw [e2]; omega, h3, h4, ?_⟩
  rw [e2]
  false_or_by_contra
  have := (Int.le_ediv_iff_mul_le (a := r + b) (b := n) (c := r + b) (by omega)).2 (by omega)
  omega
theorem SqInv.done {n r b : Int} (h : SqInv n r b) (h0 : 0 ≤ n) (h1 : n ≤ 4611686018427387904) (hb : b ≤ 0) : isq n = r := by
  obtain ⟨k, e, h2, h3, h4, h5⟩ := h
  have hk : (2 : Int) ^ k = 1 := by
    cases k with
    | zero => rfl
    | succ j =>
      have e1 : (2 : Int) ^ (j + 1) = 2 ^ j * 2 := Int.pow_succ 2 j
      have e2 : (0 : Int) < 2 ^ j := Int.pow_pos (by omega)
      omega
  rw [hk] at h5
  exact isq_eq h0 h1 h3 h4 h5

end Go.Proofs.Ytconfbdnhalmoaa.Fx
