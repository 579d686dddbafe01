/- Plain mathematics of angles: the Lean functions that the contracts of package angle and of its reference speak of, and what the statements of chapter 2 say of them. No program is imported. -/
import Derived.Test.YtfjjhcplbbjehaaFz
import Derived.Test.YtfjjhcplbbjehaaSq
set_option linter.unusedVariables false
namespace Go.Proofs.Ytfjjhcplbbjehaa.Fx

theorem tmod_at (a d : Int) : a.tmod d = if 0 ≤ a then a % d else -(-a % d) := by
  split
  · rename_i h; exact Int.tmod_eq_emod_of_nonneg h
  · exact (tdiv_neg (n := a) (d := d) (by omega)).2
theorem tmod_turn (a : Int) : a.tmod 411776 = if 0 ≤ a then a % 411776 else -(-a % 411776) := tmod_at a 411776
theorem tmod_zero_iff (a : Int) : a.tmod 411776 = 0 ↔ a % 411776 = 0 := by
  rw [tmod_turn]; split <;> omega

def nrm (a : Int) : Int := (a + 205888) % 411776 - 205888
theorem nrm_ge (a : Int) : -205888 ≤ nrm a := by unfold nrm; omega
theorem nrm_lt (a : Int) : nrm a < 205888 := by unfold nrm; omega
theorem nrm_hi {a : Int} (h : 205888 ≤ a.tmod 411776) : nrm a = a.tmod 411776 - 411776 := by
  rw [tmod_turn] at *; unfold nrm; split at * <;> omega
theorem nrm_lo {a : Int} (h : a.tmod 411776 < -205888) : nrm a = a.tmod 411776 + 411776 := by
  rw [tmod_turn] at *; unfold nrm; split at * <;> omega
theorem nrm_in {a : Int} (h1 : -205888 ≤ a.tmod 411776) (h2 : a.tmod 411776 < 205888) : nrm a = a.tmod 411776 := by
  rw [tmod_turn] at *; unfold nrm; split at * <;> omega
theorem tmod_ge (a : Int) : -411776 < a.tmod 411776 := by rw [tmod_turn]; split <;> omega
theorem tmod_le (a : Int) : a.tmod 411776 < 411776 := by rw [tmod_turn]; split <;> omega
theorem nrm_id {a : Int} (h1 : -205888 ≤ a) (h2 : a < 205888) : nrm a = a := by unfold nrm; omega
theorem nrm_nrm (a : Int) : nrm (nrm a) = nrm a := nrm_id (nrm_ge a) (nrm_lt a)
theorem nrm_turn (a n : Int) : nrm (a + n * 411776) = nrm a := by unfold nrm; omega

def iabs (x : Int) : Int := if x < 0 then -x else x
theorem iabs_neg {x : Int} (h : x < 0) : iabs x = -x := by unfold iabs; rw [if_pos h]
theorem iabs_pos {x : Int} (h : 0 ≤ x) : iabs x = x := by unfold iabs; rw [if_neg (by omega)]
theorem iabs_ge (x : Int) : 0 ≤ iabs x := by unfold iabs; split <;> omega
theorem iabs_nrm_le (a : Int) : iabs (nrm a) ≤ 205888 := by
  have := nrm_ge a; have := nrm_lt a; unfold iabs; split <;> omega

/-- The polynomial, for x in [0, HalfPi]. -/
def poly (x : Int) : Int := mul (quo x 102944) (sub 102873 (mul (mul (quo x 102944) (quo x 102944)) (sub 41906 (mul (mul (quo x 102944) (quo x 102944)) 4569))))
theorem mul_sat (a b : Int) : -536870911 ≤ mul a b ∧ mul a b ≤ 536870911 := ⟨sat_ge _, sat_le _⟩
theorem poly_ge (x : Int) : -536870911 ≤ poly x := (mul_sat _ _).1
theorem poly_le (x : Int) : poly x ≤ 536870911 := (mul_sat _ _).2
/-- The angle in the first quadrant with the same sine, up to its sign. -/
def fold (m : Int) : Int := min m (205888 - m)
def sn (a : Int) : Int := if nrm a < 0 then -poly (fold (iabs (nrm a))) else poly (fold (iabs (nrm a)))
theorem sn_neg {a : Int} (h : nrm a < 0) : sn a = -poly (fold (iabs (nrm a))) := by unfold sn; rw [if_pos h]
theorem sn_pos {a : Int} (h : ¬ nrm a < 0) : sn a = poly (fold (iabs (nrm a))) := by unfold sn; rw [if_neg h]
theorem sn_ge (a : Int) : -536870911 ≤ sn a := by
  have := poly_ge (fold (iabs (nrm a))); have := poly_le (fold (iabs (nrm a))); unfold sn; split <;> omega
theorem sn_le (a : Int) : sn a ≤ 536870911 := by
  have := poly_ge (fold (iabs (nrm a))); have := poly_le (fold (iabs (nrm a))); unfold sn; split <;> omega
def cs (a : Int) : Int := sn (102944 - iabs (nrm a))
theorem cs_ge (a : Int) : -536870911 ≤ cs a := sn_ge _
theorem cs_le (a : Int) : cs a ≤ 536870911 := sn_le _
def rlen (a : Int) : Int := isq (cs a * cs a + sn a * sn a)
def rotc (a : Int) : Int := quo (cs a) (rlen a)
def rots (a : Int) : Int := quo (sn a) (rlen a)
def dif (a b : Int) : Int := nrm (nrm b - nrm a)
theorem fold_le {m : Int} (h : m ≤ 102944) : fold m = m := by unfold fold; omega
theorem fold_gt {m : Int} (h : 102944 < m) : fold m = 205888 - m := by unfold fold; omega

theorem poly_zero : poly 0 = 0 := by decide +kernel

theorem sn_odd (a : Int) : sn (-a) = -sn a := by
  have h1 := nrm_ge a; have h2 := nrm_lt a
  by_cases e : nrm a = -205888
  · have e2 : nrm (-a) = -205888 := by unfold nrm at *; omega
    unfold sn; rw [e, e2]
    have : fold (iabs (-205888)) = 0 := by decide +kernel
    rw [this, poly_zero]; rfl
  · have e2 : nrm (-a) = -nrm a := by unfold nrm at *; omega
    unfold sn; rw [e2]
    by_cases h : nrm a < 0
    · rw [if_neg (by omega), if_pos h, iabs_neg h, iabs_pos (by omega)]; omega
    · by_cases h0 : nrm a = 0
      · rw [h0]; decide +kernel
      · rw [if_pos (by omega), if_neg h, iabs_neg (by omega), iabs_pos (by omega), Int.neg_neg]
theorem iabs_nrm_neg (a : Int) : iabs (nrm (-a)) = iabs (nrm a) := by
  have h1 := nrm_ge a; have h2 := nrm_lt a
  by_cases e : nrm a = -205888
  · have e2 : nrm (-a) = -205888 := by unfold nrm at *; omega
    rw [e, e2]
  · have e2 : nrm (-a) = -nrm a := by unfold nrm at *; omega
    rw [e2]; unfold iabs; split <;> split <;> omega
theorem cs_even (a : Int) : cs (-a) = cs a := by unfold cs; rw [iabs_nrm_neg]
theorem sn_turn (a n : Int) : sn (a + n * 411776) = sn a := by unfold sn; rw [nrm_turn]
theorem cs_turn (a n : Int) : cs (a + n * 411776) = cs a := by unfold cs; rw [nrm_turn]
theorem rlen_turn (a n : Int) : rlen (a + n * 411776) = rlen a := by unfold rlen; rw [cs_turn, sn_turn]
theorem rotc_turn (a n : Int) : rotc (a + n * 411776) = rotc a := by unfold rotc; rw [cs_turn, rlen_turn]
theorem rots_turn (a n : Int) : rots (a + n * 411776) = rots a := by unfold rots; rw [sn_turn, rlen_turn]
theorem dif_turn (a n : Int) : dif a (a + n * 411776) = 0 := by unfold dif; rw [nrm_turn, Int.sub_self]; rfl
theorem dif_self (a : Int) : dif a a = 0 := by unfold dif; rw [Int.sub_self]; rfl
theorem dif_add (a b : Int) : nrm (nrm a + dif a b) = nrm b := by unfold dif nrm; omega
theorem dif_rev (a b : Int) : dif b a = -dif a b ∨ dif a b = -205888 ∧ dif b a = dif a b := by unfold dif nrm; omega
theorem dif_ge (a b : Int) : -205888 ≤ dif a b := nrm_ge _
theorem dif_lt (a b : Int) : dif a b < 205888 := nrm_lt _

end Go.Proofs.Ytfjjhcplbbjehaa.Fx
