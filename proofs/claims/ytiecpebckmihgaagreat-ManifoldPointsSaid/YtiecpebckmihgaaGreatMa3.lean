/- Plain mathematics of angles: the Lean functions that the contracts of package angle and of its reference speak of, and what the statements of chapter 2 say of them. No program is imported.
Plain mathematics: the rotation's length: its squares add up to One*One with an error below 8*One. No program is imported.
Plain mathematics of transforms: the Lean functions, component by component, that the contracts of package transform and of its reference speak of, and what the statements of chapter 4 say of them. No program is imported. -/
import Derived.Test.YtiecpebckmihgaaGreatMa1

set_option linter.unusedVariables false
namespace Go.Proofs.YtiecpebckmihgaaGreat.Fx

theorem tmod_at (a d : Int) : a.tmod d = if 0 ≤ a then a % d else -(-a % d) := by
  split
  · rename_i h; exact Int.tmod_eq_emod_of_nonneg h
  · exact (tdiv_neg (n := a) (d := d) (by omega)).2
theorem tmod_turn (a : Int) : a.tmod 411776 = if 0 ≤ a then a % 411776 else -(-a % 411776) := tmod_at a 411776
def nrm (a : Int) : Int := (a + 205888) % 411776 - 205888
theorem nrm_ge (a : Int) : -205888 ≤ nrm a := by unfold nrm; omega
theorem nrm_lt (a : Int) : nrm a < 205888 := by unfold nrm; omega
theorem nrm_hi {a : Int} (h : 205888 ≤ a.tmod 411776) : nrm a = a.tmod 411776 - 411776 := by
  rw [tmod_turn] at *; unfold nrm; split at * <;> omega
theorem nrm_lo {a : Int} (h : a.tmod 411776 < -205888) : nrm a = a.tmod 411776 + 411776 := by
  rw [tmod_turn] at *; unfold nrm; split at * <;> omega
theorem nrm_in {a : Int} (h1 : -205888 ≤ a.tmod 411776) (h2 : a.tmod 411776 < 205888) : nrm a = a.tmod 411776 := by
  rw [tmod_turn] at *; unfold nrm; split at * <;> omega
theorem tmod_ge (a : Int) : -411776 < a.tmod 411776 := by rw [tmod_turn]; split <;> omega
theorem tmod_le (a : Int) : a.tmod 411776 < 411776 := by rw [tmod_turn]; split <;> omega
def iabs (x : Int) : Int := if x < 0 then -x else x
theorem iabs_neg {x : Int} (h : x < 0) : iabs x = -x := by unfold iabs; rw [if_pos h]
theorem iabs_pos {x : Int} (h : 0 ≤ x) : iabs x = x := by unfold iabs; rw [if_neg (by omega)]
def poly (x : Int) : Int := mul (quo x 102944) (sub 102873 (mul (mul (quo x 102944) (quo x 102944)) (sub 41906 (mul (mul (quo x 102944) (quo x 102944)) 4569))))
theorem mul_sat (a b : Int) : -536870911 ≤ mul a b ∧ mul a b ≤ 536870911 := ⟨sat_ge _, sat_le _⟩
theorem poly_ge (x : Int) : -536870911 ≤ poly x := (mul_sat _ _).1
theorem poly_le (x : Int) : poly x ≤ 536870911 := (mul_sat _ _).2
def fold (m : Int) : Int := min m (205888 - m)
def sn (a : Int) : Int := if nrm a < 0 then -poly (fold (iabs (nrm a))) else poly (fold (iabs (nrm a)))
theorem sn_neg {a : Int} (h : nrm a < 0) : sn a = -poly (fold (iabs (nrm a))) := by unfold sn; rw [if_pos h]
theorem sn_pos {a : Int} (h : ¬ nrm a < 0) : sn a = poly (fold (iabs (nrm a))) := by unfold sn; rw [if_neg h]
theorem sn_ge (a : Int) : -536870911 ≤ sn a := by
  have := poly_ge (fold (iabs (nrm a))); have := poly_le (fold (iabs (nrm a))); unfold sn; split <;> omega
theorem sn_le (a : Int) : sn a ≤ 536870911 := by
  have := poly_ge (fold (iabs (nrm a))); have := poly_le (fold (iabs (nrm a))); unfold sn; split <;> omega
def cs (a : Int) : Int := sn (102944 - iabs (nrm a))
theorem cs_ge (a : Int) : -536870911 ≤ cs a := sn_ge _
theorem cs_le (a : Int) : cs a ≤ 536870911 := sn_le _
def rlen (a : Int) : Int := isq (cs a * cs a + sn a * sn a)
def rotc (a : Int) : Int := quo (cs a) (rlen a)
def rots (a : Int) : Int := quo (sn a) (rlen a)
end Go.Proofs.YtiecpebckmihgaaGreat.Fx

set_option linter.unusedVariables false
namespace Go.Proofs.YtiecpebckmihgaaGreat.Fx

theorem rdiv_lo {n d q : Int} (hd : 1 ≤ d) (h2 : d ≤ 4611686018427387904) (h3 : -4611686018427387904 ≤ n) (h4 : n ≤ 4611686018427387904) : 2 * (n - rdiv n d * d) ≤ d ∧ 2 * (rdiv n d * d - n) ≤ d := by
  rw [rdiv_in hd h2 h3 h4]; exact rcore_near hd

end Go.Proofs.YtiecpebckmihgaaGreat.Fx

set_option linter.unusedVariables false
namespace Go.Proofs.YtiecpebckmihgaaGreat.Fx

def tpx (px a vx vy : Int) : Int := add (rotx (rotc a) (rots a) vx vy) px
def tpy (py a vx vy : Int) : Int := add (roty (rotc a) (rots a) vx vy) py
theorem back {r p : Int} (h1 : -16777217 ≤ r) (h2 : r ≤ 16777217) (h3 : -268435456 ≤ p) (h4 : p ≤ 268435456) : sub (add (add r p) 0) r = p := by
  rw [add_zero, add_sat]; unfold add sub
  rw [sat_id (x := r) (by omega) (by omega), sat_id (x := p) (by omega) (by omega), sat_id (x := r + p) (by omega) (by omega), sat_id (x := r + p) (by omega) (by omega)]
  rw [sat_id (by omega) (by omega)]; omega
end Go.Proofs.YtiecpebckmihgaaGreat.Fx
