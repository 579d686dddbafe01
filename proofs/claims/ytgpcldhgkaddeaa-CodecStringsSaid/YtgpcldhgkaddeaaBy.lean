/- Plain mathematics of the binary encoding: the Lean functions that the contracts of package codec and of its reference speak of, and what the statements of chapter 7 say of them. No program is imported. -/
import Derived.Test.YtgpcldhgkaddeaaByt
set_option linter.unusedVariables false
namespace Go.Proofs.Ytgpcldhgkaddeaa.By
open Go

/-- Big-endian digits without leading zeros. -/
def dig (m : Nat) : List Int := if h : m = 0 then [] else dig (m / 256) ++ [((m % 256 : Nat) : Int)]
termination_by m
decreasing_by omega
theorem dig_zero : dig 0 = [] := by unfold dig; simp
theorem dig_pos {m : Nat} (h : m ≠ 0) : dig m = dig (m / 256) ++ [((m % 256 : Nat) : Int)] := by rw [dig]; simp [h]
theorem dig_isB : ∀ m : Nat, isB (dig m) := by
  intro m
  induction m using Nat.strongRecOn with
  | _ m ih =>
    by_cases h : m = 0
    · rw [h, dig_zero]; intro x hx; cases hx
    · rw [dig_pos h]; intro x hx
      rcases List.mem_append.1 hx with hx | hx
      · exact ih (m / 256) (by omega) x hx
      · simp at hx; omega
theorem dig_len : ∀ (k m : Nat), m < 256 ^ k → (dig m).length ≤ k
  | 0, m, h => by have : m = 0 := by simpa using h
                  rw [this, dig_zero]; simp
  | k + 1, m, h => by
    by_cases h0 : m = 0
    · rw [h0, dig_zero]; simp
    · rw [dig_pos h0, List.length_append]
      have := dig_len k (m / 256) (by rw [Nat.div_lt_iff_lt_mul (by omega)]; rw [Nat.pow_succ] at h; exact h)
      simp; omega
/-- The number that digits tell. -/
def und (bs : List Int) : Nat := bs.foldl (fun m b => m * 256 + b.toNat) 0
theorem und_snoc (bs : List Int) (b : Int) : und (bs ++ [b]) = und bs * 256 + b.toNat := by simp [und]
theorem und_dig : ∀ m : Nat, und (dig m) = m := by
  intro m
  induction m using Nat.strongRecOn with
  | _ m ih =>
    by_cases h : m = 0
    · rw [h, dig_zero]; rfl
    · rw [dig_pos h, und_snoc, ih (m / 256) (by omega)]; simp; omega
/-- The header, the encoding. -/
def hdr (n : Int) : Int := ((dig n.natAbs).length : Int) + if n < 0 then 16 else 0
def enc (n : Int) : List Int := hdr n :: dig n.natAbs
theorem dig8 {n : Int} (h0 : -9223372036854775808 ≤ n) (h1 : n ≤ 9223372036854775807) : (dig n.natAbs).length ≤ 8 := dig_len 8 _ (by rw [show ((256 : Nat) ^ 8) = 18446744073709551616 from by decide]; omega)
theorem enc_isB {n : Int} (h0 : -9223372036854775808 ≤ n) (h1 : n ≤ 9223372036854775807) : isB (enc n) := by
  intro x hx
  rcases List.mem_cons.1 hx with rfl | hx
  · have := dig8 h0 h1; unfold hdr; split <;> omega
  · exact dig_isB _ x hx

theorem und_go : ∀ (bs : List Int) (a : Nat), isB bs → bs.foldl (fun m b => m * 256 + b.toNat) a < (a + 1) * 256 ^ bs.length
  | [], a, _ => by simp
  | b :: bs, a, h => by
    have h1 := und_go bs (a * 256 + b.toNat) fun y hy => h y (List.mem_cons_of_mem _ hy)
    have h2 := h b (List.mem_cons_self ..)
    have h3 : (a * 256 + b.toNat + 1) * 256 ^ bs.length ≤ ((a + 1) * 256) * 256 ^ bs.length := Nat.mul_le_mul_right _ (by omega)
    rw [List.foldl_cons, List.length_cons, Nat.pow_succ, Nat.mul_comm (256 ^ bs.length) 256, ← Nat.mul_assoc]
    exact Nat.lt_of_lt_of_le h1 h3
theorem und_lt (bs : List Int) (h : isB bs) : und bs < 256 ^ bs.length := by
  have := und_go bs 0 h
  simpa [und] using this
theorem und_take_succ {ds : List Int} {j : Nat} (hj : j < ds.length) : und (ds.take (j + 1)) = und (ds.take j) * 256 + (ds[j]).toNat := by
  rw [List.take_add_one, List.getElem?_eq_getElem hj]; exact und_snoc _ _
theorem und_mono {ds : List Int} {j : Nat} (hj : j < ds.length) : und (ds.take j) ≤ und (ds.take (j + 1)) := by rw [und_take_succ hj]; omega
theorem und_first {ds : List Int} (h : 0 < ds.length) (h1 : 0 < ds[0]) : ∀ k, 1 ≤ k → k ≤ ds.length → 1 ≤ und (ds.take k)
  | 0, h0, _ => by omega
  | 1, _, _ => by rw [und_take_succ (j := 0) h]; simp [und]; omega
  | k + 2, _, hk => Nat.le_trans (und_first h h1 (k + 1) (by omega) (by omega)) (und_mono (by omega))

/-- ReadInt. -/
def rdInt (bs : List Int) (p : Int) : Int × Int × Int :=
  if p < 0 ∨ (bs.length : Int) < p then (0, 0, 2) else if p = bs.length then (0, 0, 4) else
  let h := bs.getD p.toNat 0
  let k := if 16 ≤ h then h - 16 else h
  if 8 < k ∨ (16 ≤ h ∧ k = 0) then (0, 0, 3) else if (bs.length : Int) - p - 1 < k then (0, 0, 4) else
  let m : Int := und ((bs.drop (p.toNat + 1)).take k.toNat)
  if (0 < k ∧ bs.getD (p.toNat + 1) 0 = 0) ∨ (¬ 16 ≤ h ∧ 9223372036854775807 < m) ∨ (16 ≤ h ∧ 9223372036854775808 < m) then (0, 0, 3)
  else (if 16 ≤ h then -m else m, p + 1 + k, 0)

/-- ReadBool. -/
def rdBool (bs : List Int) (p : Int) : Bool × Int × Int :=
  if p < 0 ∨ (bs.length : Int) < p then (false, 0, 2) else if p = bs.length then (false, 0, 4) else
  if 1 < bs.getD p.toNat 0 then (false, 0, 3) else (bs.getD p.toNat 0 == 1, p + 1, 0)
def encBool (x : Bool) : List Int := [if x then 1 else 0]

/-- The length of a string or a slice. -/
def rdLen (bs : List Int) (p most : Int) : Int × Int × Int :=
  if (rdInt bs p).2.2 ≠ 0 then (0, 0, (rdInt bs p).2.2) else if (rdInt bs p).1 < 0 then (0, 0, 3) else if max most 0 < (rdInt bs p).1 then (0, 0, 5) else ((rdInt bs p).1, (rdInt bs p).2.1, 0)
/-- ReadVec. -/
def rdVec (bs : List Int) (p : Int) : (Int × Int) × Int × Int :=
  if (rdInt bs p).2.2 ≠ 0 then ((0, 0), 0, (rdInt bs p).2.2) else
  if (rdInt bs (rdInt bs p).2.1).2.2 ≠ 0 then ((0, 0), 0, (rdInt bs (rdInt bs p).2.1).2.2) else (((rdInt bs p).1, (rdInt bs (rdInt bs p).2.1).1), (rdInt bs (rdInt bs p).2.1).2.1, 0)

/-- Strings and slices of integers. -/
def encStr (bs : List Int) : List Int := enc bs.length ++ bs
def encAll : List Int → List Int
  | [] => []
  | n :: ns => enc n ++ encAll ns
def encInts (ns : List Int) : List Int := enc ns.length ++ encAll ns
theorem encAll_append : ∀ a b : List Int, encAll (a ++ b) = encAll a ++ encAll b
  | [], b => rfl
  | n :: ns, b => by simp [encAll, encAll_append ns b]
theorem encAll_succ {ns : List Int} {k : Nat} (h : k < ns.length) : encAll (ns.take (k + 1)) = encAll (ns.take k) ++ enc ns[k] := by
  rw [List.take_add_one, List.getElem?_eq_getElem h, encAll_append]; simp [encAll]
theorem enc_le {n : Int} (h0 : -9223372036854775808 ≤ n) (h1 : n ≤ 9223372036854775807) : (enc n).length ≤ 9 := by have := dig8 h0 h1; simp [enc]; omega
theorem encAll_le : ∀ ns : List Int, (∀ n ∈ ns, -9223372036854775808 ≤ n ∧ n ≤ 9223372036854775807) → (encAll ns).length ≤ 9 * ns.length
  | [], _ => by simp [encAll]
  | n :: ns, h => by
    have h1 := encAll_le ns fun x hx => h x (List.mem_cons_of_mem _ hx)
    have h2 := h n (List.mem_cons_self ..)
    have h3 := enc_le h2.1 h2.2
    simp [encAll]; omega
def rdStr (bs : List Int) (p most : Int) : List Int × Int × Int :=
  if (rdLen bs p most).2.2 ≠ 0 then ([], 0, (rdLen bs p most).2.2) else if (bs.length : Int) - (rdLen bs p most).2.1 < (rdLen bs p most).1 then ([], 0, 4) else
  ((bs.drop (rdLen bs p most).2.1.toNat).take (rdLen bs p most).1.toNat, (rdLen bs p most).2.1 + (rdLen bs p most).1, 0)
def rdN (bs : List Int) : Nat → Int → List Int → List Int × Int × Int
  | 0, to, acc => (acc, to, 0)
  | n + 1, to, acc => if (rdInt bs to).2.2 ≠ 0 then ([], 0, (rdInt bs to).2.2) else rdN bs n (rdInt bs to).2.1 (acc ++ [(rdInt bs to).1])
def rdInts (bs : List Int) (p most : Int) : List Int × Int × Int :=
  if (rdLen bs p most).2.2 ≠ 0 then ([], 0, (rdLen bs p most).2.2) else rdN bs (rdLen bs p most).1.toNat (rdLen bs p most).2.1 []

end Go.Proofs.Ytgpcldhgkaddeaa.By
