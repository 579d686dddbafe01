/- Plain mathematics of chapter 13: the centroid of a convex polygon lies inside it, roundings included. No program is imported.
Plain mathematics of chapter 13, continued: the centroid, as it is rounded, lies to the left of every edge. No program is imported.
Plain mathematics of chapter 13: the Lean functions that the contracts of package massdata and of its reference speak of; the mass does not fall with the density, nor below that of a part. No program is imported. -/
import Derived.Test.YtdmcdicphohlfaaGreatMa5
import Derived.Test.YtdmcdicphohlfaaGreatSh1

set_option linter.unusedVariables false
namespace Go.Proofs.YtdmcdicphohlfaaGreat.Fx

/-! ### The moment of a distance over a polygon does not depend on the point that it is fanned from -/
/-! ### Thickness -/
def tv (a : Nat → Int) : Nat → Int
  | 0 => 0
  | k + 1 => tv a k + (if a k < a (k + 1) then a (k + 1) - a k else a k - a (k + 1))
/-! ### Walks that begin elsewhere -/
end Go.Proofs.YtdmcdicphohlfaaGreat.Fx

set_option linter.unusedVariables false
namespace Go.Proofs.YtdmcdicphohlfaaGreat.Fx

end Go.Proofs.YtdmcdicphohlfaaGreat.Fx

set_option linter.unusedVariables false
namespace Go.Proofs.YtdmcdicphohlfaaGreat.Fx

structure Md where
  m : Int
  x : Int
  y : Int
  i : Int
  deriving DecidableEq, Inhabited
def Md.zero : Md := ⟨0, 0, 0, 0⟩
def kkI (ps : List Pt) (cx cy : Int) (i : Nat) : Int := cross (sub (hp' ps i).1 cx) (sub (hp' ps i).2 cy) (sub (hp' ps (i + 1)).1 cx) (sub (hp' ps (i + 1)).2 cy)
def ddI (ps : List Pt) (cx cy : Int) (i : Nat) : Int :=
  dot (sub (hp' ps i).1 cx) (sub (hp' ps i).2 cy) (sub (hp' ps i).1 cx) (sub (hp' ps i).2 cy) + dot (sub (hp' ps i).1 cx) (sub (hp' ps i).2 cy) (sub (hp' ps (i + 1)).1 cx) (sub (hp' ps (i + 1)).2 cy) + dot (sub (hp' ps (i + 1)).1 cx) (sub (hp' ps (i + 1)).2 cy) (sub (hp' ps (i + 1)).1 cx) (sub (hp' ps (i + 1)).2 cy)
def sumB (ps : List Pt) (cx cy : Int) : Nat → Int
  | 0 => 0
  | k + 1 => sumB ps cx cy k + kkI ps cx cy k
def sumA (ps : List Pt) (cx cy : Int) : Nat → Int
  | 0 => 0
  | k + 1 => sumA ps cx cy k + kkI ps cx cy k * ddI ps cx cy k
def pin (ps : List Pt) (cx cy m : Int) : Int := if sumB ps cx cy ps.length < 1 then 0 else mul m (rdiv (rdiv (sumA ps cx cy ps.length) (sumB ps cx cy ps.length)) 6)
def disk (R : Int) : Int := mul 205888 (mul R R)
def capl (ps : List Pt) : Int := vlen (sub (hp' ps 1).1 (hp' ps 0).1) (sub (hp' ps 1).2 (hp' ps 0).2)
def capm (R : Int) (ps : List Pt) (D : Int) : Int := mul (add (disk R) (mul (add R R) (capl ps))) D
def ofS (K R : Int) (ps : List Pt) (D : Int) : Md :=
  if valS K R ps ≠ 0 ∨ D < 0 ∨ 262144 < D then Md.zero
  else if K = 1 then ⟨mul (disk R) D, (hp' ps 0).1, (hp' ps 0).2, mul (mul (disk R) D) (rdiv (mul R R) 2)⟩
  else if K = 2 then ⟨capm R ps D, lerp (hp' ps 0).1 (hp' ps 1).1 32768, lerp (hp' ps 0).2 (hp' ps 1).2 32768, mul (capm R ps D) (add (rdiv (mul R R) 2) (rdiv (mul (capl ps) (capl ps)) 12))⟩
  else ⟨mul (areaP ps) D, (cenP ps).1, (cenP ps).2, pin ps (cenP ps).1 (cenP ps).2 (mul (areaP ps) D)⟩

/-! ### Combination -/
def cmass (l : List Md) : Int := l.foldl (fun s p => add s (sat p.m)) 0
def csum (l : List Md) : Int := l.foldl (fun s p => s + sat p.m) 0
def cmx (l : List Md) : Int := l.foldl (fun s p => s + sat p.m * sat p.x) 0
def cmy (l : List Md) : Int := l.foldl (fun s p => s + sat p.m * sat p.y) 0
def ccx (l : List Md) : Int := if 0 < csum l then rdiv (cmx l) (csum l) else 0
def ccy (l : List Md) : Int := if 0 < csum l then rdiv (cmy l) (csum l) else 0
def cin (cx cy : Int) (l : List Md) : Int := l.foldl (fun s p => add (add s p.i) (mul p.m (dot (sub p.x cx) (sub p.y cy) (sub p.x cx) (sub p.y cy)))) 0
def comb (l : List Md) : Md := if 8 < l.length ∨ ∃ p ∈ l, p.m < 0 then Md.zero else ⟨cmass l, ccx l, ccy l, cin (ccx l) (ccy l) l⟩
def invM (M k : Int) : Int := if k ≠ 3 then 0 else if 1 ≤ M then quo 65536 M else 65536
def invI (I k : Int) (f : Bool) : Int := if k ≠ 3 then 0 else if f = false ∧ 1 ≤ I then quo 65536 I else 0

/-! ### The inertia of a polygon is not negative -/
theorem ofS_no {K R : Int} {ps : List Pt} {D : Int} (h : valS K R ps ≠ 0 ∨ D < 0 ∨ 262144 < D) : ofS K R ps D = Md.zero := if_pos h
theorem ofS_1 {K R : Int} {ps : List Pt} {D : Int} (h : valS K R ps = 0) (h0 : 0 ≤ D) (h1 : D ≤ 262144) (hK : K = 1) : ofS K R ps D = ⟨mul (disk R) D, (hp' ps 0).1, (hp' ps 0).2, mul (mul (disk R) D) (rdiv (mul R R) 2)⟩ := by
  unfold ofS; rw [if_neg (by omega), if_pos hK]
theorem ofS_2 {K R : Int} {ps : List Pt} {D : Int} (h : valS K R ps = 0) (h0 : 0 ≤ D) (h1 : D ≤ 262144) (hK : K = 2) : ofS K R ps D = ⟨capm R ps D, lerp (hp' ps 0).1 (hp' ps 1).1 32768, lerp (hp' ps 0).2 (hp' ps 1).2 32768, mul (capm R ps D) (add (rdiv (mul R R) 2) (rdiv (mul (capl ps) (capl ps)) 12))⟩ := by
  unfold ofS; rw [if_neg (by omega), if_neg (by omega), if_pos hK]
theorem ofS_3 {K R : Int} {ps : List Pt} {D : Int} (h : valS K R ps = 0) (h0 : 0 ≤ D) (h1 : D ≤ 262144) (hK : K = 3) : ofS K R ps D = ⟨mul (areaP ps) D, (cenP ps).1, (cenP ps).2, pin ps (cenP ps).1 (cenP ps).2 (mul (areaP ps) D)⟩ := by
  unfold ofS; rw [if_neg (by omega), if_neg (by omega), if_neg (by omega)]
/-! ### A combination weighs no less than its parts -/
end Go.Proofs.YtdmcdicphohlfaaGreat.Fx
