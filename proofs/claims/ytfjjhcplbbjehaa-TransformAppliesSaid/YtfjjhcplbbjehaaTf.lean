/- Plain mathematics of transforms: the Lean functions, component by component, that the contracts of package transform and of its reference speak of, and what the statements of chapter 4 say of them. No program is imported. -/
import Derived.Test.YtfjjhcplbbjehaaVec
import Derived.Test.YtfjjhcplbbjehaaVecL
import Derived.Test.YtfjjhcplbbjehaaAngU
set_option linter.unusedVariables false
namespace Go.Proofs.Ytfjjhcplbbjehaa.Fx

def tpx (px a vx vy : Int) : Int := add (rotx (rotc a) (rots a) vx vy) px
def tpy (py a vx vy : Int) : Int := add (roty (rotc a) (rots a) vx vy) py
def tqx (px py a vx vy : Int) : Int := irotx (rotc a) (rots a) (sub vx px) (sub vy py)
def tqy (px py a vx vy : Int) : Int := iroty (rotc a) (rots a) (sub vx px) (sub vy py)
/-- The angle a turned by b. -/
def tang (a b : Int) : Int := nrm (nrm a + b)
def tgx (px a cx cy vx w dt : Int) : Int := sub (add (tpx px a cx cy) (mul vx dt)) (rotx (rotc (tang a (mul w dt))) (rots (tang a (mul w dt))) cx cy)
def tgy (py a cx cy vy w dt : Int) : Int := sub (add (tpy py a cx cy) (mul vy dt)) (roty (rotc (tang a (mul w dt))) (rots (tang a (mul w dt))) cx cy)
def inw (x : Int) : Bool := decide (-268435456 ≤ x) && decide (x ≤ 268435456)
def tval (px py a : Int) : Bool := inw px && inw py && decide (-205888 ≤ a) && decide (a < 205888)
/-- A point of a shape. -/
def tloc (x y : Int) : Bool := decide (-1048576 ≤ x) && decide (x ≤ 1048576) && decide (-1048576 ≤ y) && decide (y ≤ 1048576)
theorem tloc_iff {x y : Int} : tloc x y = true ↔ -1048576 ≤ x ∧ x ≤ 1048576 ∧ -1048576 ≤ y ∧ y ≤ 1048576 := by simp [tloc, and_assoc]
theorem inw_iff {x : Int} : inw x = true ↔ -268435456 ≤ x ∧ x ≤ 268435456 := by simp [inw]
theorem tval_iff {px py a : Int} : tval px py a = true ↔ (-268435456 ≤ px ∧ px ≤ 268435456) ∧ (-268435456 ≤ py ∧ py ≤ 268435456) ∧ -205888 ≤ a ∧ a < 205888 := by
  simp [tval, inw, and_assoc]
theorem tang_ge (a b : Int) : -205888 ≤ tang a b := nrm_ge _
theorem tang_lt (a b : Int) : tang a b < 205888 := nrm_lt _
theorem tang_zero {a : Int} (h1 : -205888 ≤ a) (h2 : a < 205888) : tang a 0 = a := by unfold tang; rw [Int.add_zero, nrm_nrm, nrm_id h1 h2]
theorem tang_in (a b : Int) : nrm (tang a b) = tang a b := nrm_id (tang_ge a b) (tang_lt a b)

theorem zero_mul' (a : Int) : mul 0 a = 0 := by rw [mul_comm]; exact mul_zero a
/-- A rotation of a point of a shape is short. -/
theorem rdiv_small {n : Int} (h1 : -1099511627776 ≤ n) (h2 : n ≤ 1099511627776) : -16777217 ≤ rdiv n 65536 ∧ rdiv n 65536 ≤ 16777217 := by
  have := rdiv_lo (n := n) (d := 65536) (q := 0) (by omega) (by omega) (by omega) (by omega)
  omega
theorem rot_small {a cx cy : Int} (h1 : -1048576 ≤ cx) (h2 : cx ≤ 1048576) (h3 : -1048576 ≤ cy) (h4 : cy ≤ 1048576) :
    (-16777217 ≤ rotx (rotc a) (rots a) cx cy ∧ rotx (rotc a) (rots a) cx cy ≤ 16777217) ∧ (-16777217 ≤ roty (rotc a) (rots a) cx cy ∧ roty (rotc a) (rots a) cx cy ≤ 16777217) := by
  obtain ⟨c1, c2, s1, s2⟩ := rot_le a
  have a1 := mul_between (a := rotc a) (b := cx) (A := 131072) (B := 1048576) (by omega) (by omega) (by omega) (by omega)
  have a2 := mul_between (a := rots a) (b := cy) (A := 131072) (B := 1048576) (by omega) (by omega) (by omega) (by omega)
  have a3 := mul_between (a := rots a) (b := cx) (A := 131072) (B := 1048576) (by omega) (by omega) (by omega) (by omega)
  have a4 := mul_between (a := rotc a) (b := cy) (A := 131072) (B := 1048576) (by omega) (by omega) (by omega) (by omega)
  unfold rotx roty
  rw [sat_id (x := rotc a) (by omega) (by omega), sat_id (x := rots a) (by omega) (by omega), sat_id (x := cx) (by omega) (by omega), sat_id (x := cy) (by omega) (by omega)]
  have r1 := rdiv_small (n := rotc a * cx - rots a * cy) (by omega) (by omega)
  have r2 := rdiv_small (n := rots a * cx + rotc a * cy) (by omega) (by omega)
  rw [sat_id (by omega) (by omega), sat_id (by omega) (by omega)]
  exact ⟨r1, r2⟩
theorem back {r p : Int} (h1 : -16777217 ≤ r) (h2 : r ≤ 16777217) (h3 : -268435456 ≤ p) (h4 : p ≤ 268435456) : sub (add (add r p) 0) r = p := by
  rw [add_zero, add_sat]; unfold add sub
  rw [sat_id (x := r) (by omega) (by omega), sat_id (x := p) (by omega) (by omega), sat_id (x := r + p) (by omega) (by omega), sat_id (x := r + p) (by omega) (by omega)]
  rw [sat_id (by omega) (by omega)]; omega
theorem tgx_still {px py a cx cy vx w dt : Int} (hv : tval px py a = true) (h1 : -1048576 ≤ cx) (h2 : cx ≤ 1048576) (h3 : -1048576 ≤ cy) (h4 : cy ≤ 1048576) (hm : mul vx dt = 0) (hw : mul w dt = 0) : tgx px a cx cy vx w dt = px := by
  obtain ⟨⟨p1, p2⟩, _, a1, a2⟩ := tval_iff.1 hv
  unfold tgx tpx
  rw [hm, hw, tang_zero a1 a2]
  have := (rot_small (a := a) h1 h2 h3 h4).1
  exact back this.1 this.2 p1 p2
theorem tgy_still {px py a cx cy vy w dt : Int} (hv : tval px py a = true) (h1 : -1048576 ≤ cx) (h2 : cx ≤ 1048576) (h3 : -1048576 ≤ cy) (h4 : cy ≤ 1048576) (hm : mul vy dt = 0) (hw : mul w dt = 0) : tgy py a cx cy vy w dt = py := by
  obtain ⟨_, ⟨p1, p2⟩, a1, a2⟩ := tval_iff.1 hv
  unfold tgy tpy
  rw [hm, hw, tang_zero a1 a2]
  have := (rot_small (a := a) h1 h2 h3 h4).2
  exact back this.1 this.2 p1 p2
theorem lerp_still {a b : Int} (h1 : -268435456 ≤ a) (h2 : a ≤ 268435456) : lerp a b 0 = a := by rw [lerp_zero, sat_id (by omega) (by omega)]

theorem rlen_none : rlen 0 = 65536 := by
  have h1 : cs 0 = 65536 := by decide +kernel
  have h2 : sn 0 = 0 := by decide +kernel
  unfold rlen; rw [h1, h2]; exact isq_eq (by omega) (by omega) (by omega) (by omega) (by omega)
theorem rotc_none : rotc 0 = 65536 := by
  have h1 : cs 0 = 65536 := by decide +kernel
  unfold rotc; rw [h1, rlen_none]; decide +kernel
theorem rots_none : rots 0 = 0 := by
  have h2 : sn 0 = 0 := by decide +kernel
  unfold rots; rw [h2, rlen_none]; decide +kernel
theorem rlen_half' : rlen 102944 = 65536 := by
  have h1 : cs 102944 = 0 := by decide +kernel
  have h2 : sn 102944 = 65536 := by decide +kernel
  unfold rlen; rw [h1, h2]; exact isq_eq (by omega) (by omega) (by omega) (by omega) (by omega)
theorem rotc_half : rotc 102944 = 0 := by
  have h1 : cs 102944 = 0 := by decide +kernel
  unfold rotc; rw [h1, rlen_half']; decide +kernel
theorem rots_half : rots 102944 = 65536 := by
  have h2 : sn 102944 = 65536 := by decide +kernel
  unfold rots; rw [h2, rlen_half']; decide +kernel
theorem rotx_none (x y : Int) : rotx 65536 0 x y = sat x := by
  unfold rotx; rw [sat_one, sat_zero, show 65536 * sat x - 0 * sat y = sat x * 65536 from by omega, rdiv_one, sat_sat]
theorem roty_none (x y : Int) : roty 65536 0 x y = sat y := by
  unfold roty; rw [sat_one, sat_zero, show 0 * sat x + 65536 * sat y = sat y * 65536 from by omega, rdiv_one, sat_sat]
theorem irotx_none (x y : Int) : irotx 65536 0 x y = sat x := by
  unfold irotx; rw [sat_one, sat_zero, show 65536 * sat x + 0 * sat y = sat x * 65536 from by omega, rdiv_one, sat_sat]
theorem iroty_none (x y : Int) : iroty 65536 0 x y = sat y := by
  unfold iroty; rw [sat_one, sat_zero, show 65536 * sat y - 0 * sat x = sat y * 65536 from by omega, rdiv_one, sat_sat]
theorem sub_sat (a b : Int) : sat (sub a b) = sub a b := by unfold sub; rw [sat_sat]
theorem add_satl (a b : Int) : add (sat a) b = add a b := by unfold add; rw [sat_sat]
theorem tpx_none (px vx vy : Int) : tpx px 0 vx vy = add vx px := by unfold tpx; rw [rotc_none, rots_none, rotx_none, add_satl]
theorem tpy_none (py vx vy : Int) : tpy py 0 vx vy = add vy py := by unfold tpy; rw [rotc_none, rots_none, roty_none, add_satl]
theorem tqx_none (px py vx vy : Int) : tqx px py 0 vx vy = sub vx px := by unfold tqx; rw [rotc_none, rots_none, irotx_none, sub_sat]
theorem tqy_none (px py vx vy : Int) : tqy px py 0 vx vy = sub vy py := by unfold tqy; rw [rotc_none, rots_none, iroty_none, sub_sat]
theorem tang_none : tang 0 (nrm 0) = 0 := by decide +kernel
theorem ex4a : tpx 65536 102944 65536 0 = 65536 := by unfold tpx; rw [rotc_half, rots_half]; decide +kernel
theorem ex4b : tpy 0 102944 65536 0 = 65536 := by unfold tpy; rw [rotc_half, rots_half]; decide +kernel
theorem ex4c : tqx 65536 0 102944 65536 65536 = 65536 := by unfold tqx; rw [rotc_half, rots_half]; decide +kernel
theorem ex4d : tqy 65536 0 102944 65536 65536 = 0 := by unfold tqy; rw [rotc_half, rots_half]; decide +kernel

end Go.Proofs.Ytfjjhcplbbjehaa.Fx
