/- Plain mathematics of bounding boxes: the Lean functions that the contracts of package aabb and of its reference speak of, and what the statements of chapter 5 say of them. No program is imported. -/
import Derived.Test.YtconfbdnhalmoaaVec
import Derived.Test.YtconfbdnhalmoaaVecL
set_option linter.unusedVariables false
namespace Go.Proofs.Ytconfbdnhalmoaa.Fx

/-- A box: its four numbers. -/
structure Bx where
  x0 : Int
  y0 : Int
  x1 : Int
  y1 : Int
  deriving DecidableEq, Inhabited

def Bx.zero : Bx := ⟨0, 0, 0, 0⟩
def Bx.ok (b : Bx) : Prop := b.x0 ≤ b.x1 ∧ b.y0 ≤ b.y1 ∧ b.x0 = sat b.x0 ∧ b.y0 = sat b.y0 ∧ b.x1 = sat b.x1 ∧ b.y1 = sat b.y1
instance (b : Bx) : Decidable b.ok := by unfold Bx.ok; exact inferInstance
def Bx.val (b : Bx) : Bool := decide b.ok
theorem Bx.val_iff {b : Bx} : b.val = true ↔ b.ok := by simp [Bx.val]
theorem Bx.val_not {b : Bx} : b.val = false ↔ ¬ b.ok := by simp [Bx.val]

theorem seven (p1 p2 p3 p4 p5 p6 : Prop) : (¬ (p1 ∧ p2 ∧ p3 ∧ p4 ∧ p5 ∧ p6) ∧ ¬ p1) ∨ (¬ (p1 ∧ p2 ∧ p3 ∧ p4 ∧ p5 ∧ p6) ∧ p1 ∧ ¬ p2) ∨ (¬ (p1 ∧ p2 ∧ p3 ∧ p4 ∧ p5 ∧ p6) ∧ p1 ∧ p2 ∧ ¬ p3) ∨
    (¬ (p1 ∧ p2 ∧ p3 ∧ p4 ∧ p5 ∧ p6) ∧ p1 ∧ p2 ∧ p3 ∧ ¬ p4) ∨ (¬ (p1 ∧ p2 ∧ p3 ∧ p4 ∧ p5 ∧ p6) ∧ p1 ∧ p2 ∧ p3 ∧ p4 ∧ ¬ p5) ∨ (¬ (p1 ∧ p2 ∧ p3 ∧ p4 ∧ p5 ∧ p6) ∧ p1 ∧ p2 ∧ p3 ∧ p4 ∧ p5 ∧ ¬ p6) ∨ ((p1 ∧ p2 ∧ p3 ∧ p4 ∧ p5 ∧ p6) ∧ p1 ∧ p2 ∧ p3 ∧ p4 ∧ p5 ∧ p6) := by
  by_cases h1 : p1 <;> by_cases h2 : p2 <;> by_cases h3 : p3 <;> by_cases h4 : p4 <;> by_cases h5 : p5 <;> by_cases h6 : p6 <;> simp [h1, h2, h3, h4, h5, h6]
/-- How Valid comes to its answer. -/
theorem Bx.val_cases (b : Bx) :
    (b.val = false ∧ decide (b.x0 ≤ b.x1) = false) ∨ (b.val = false ∧ decide (b.x0 ≤ b.x1) = true ∧ decide (b.y0 ≤ b.y1) = false) ∨
    (b.val = false ∧ decide (b.x0 ≤ b.x1) = true ∧ decide (b.y0 ≤ b.y1) = true ∧ (b.x0 == sat b.x0) = false) ∨
    (b.val = false ∧ decide (b.x0 ≤ b.x1) = true ∧ decide (b.y0 ≤ b.y1) = true ∧ (b.x0 == sat b.x0) = true ∧ (b.y0 == sat b.y0) = false) ∨
    (b.val = false ∧ decide (b.x0 ≤ b.x1) = true ∧ decide (b.y0 ≤ b.y1) = true ∧ (b.x0 == sat b.x0) = true ∧ (b.y0 == sat b.y0) = true ∧ (b.x1 == sat b.x1) = false) ∨
    (b.val = false ∧ decide (b.x0 ≤ b.x1) = true ∧ decide (b.y0 ≤ b.y1) = true ∧ (b.x0 == sat b.x0) = true ∧ (b.y0 == sat b.y0) = true ∧ (b.x1 == sat b.x1) = true ∧ (b.y1 == sat b.y1) = false) ∨
    (b.val = true ∧ decide (b.x0 ≤ b.x1) = true ∧ decide (b.y0 ≤ b.y1) = true ∧ (b.x0 == sat b.x0) = true ∧ (b.y0 == sat b.y0) = true ∧ (b.x1 == sat b.x1) = true ∧ (b.y1 == sat b.y1) = true) := by
  simp only [Bx.val_iff, Bx.val_not, decide_eq_true_eq, decide_eq_false_iff_not, beq_iff_eq, beq_eq_false_iff_ne, Bx.ok, ne_eq]
  exact seven ..

def Bx.one (p : Int × Int) : Bx := ⟨sat p.1, sat p.2, sat p.1, sat p.2⟩
def Bx.step (b : Bx) (p : Int × Int) : Bx := ⟨min b.x0 (sat p.1), min b.y0 (sat p.2), max b.x1 (sat p.1), max b.y1 (sat p.2)⟩
def Bx.pts : List (Int × Int) → Bx
  | [] => Bx.zero
  | p :: ps => ps.foldl Bx.step (Bx.one p)
theorem Bx.pts_succ {ps : List (Int × Int)} {k : Nat} (h1 : 1 ≤ k) (hk : k < ps.length) : Bx.pts (ps.take (k + 1)) = (Bx.pts (ps.take k)).step ps[k] := by
  cases ps with
  | nil => simp at hk
  | cons p ps =>
    obtain ⟨k, rfl⟩ : ∃ j, k = j + 1 := ⟨k - 1, by omega⟩
    have hk' : k < ps.length := by simpa using hk
    simp only [List.take_succ_cons, Bx.pts, List.getElem_cons_succ]
    rw [List.take_add_one, List.getElem?_eq_getElem hk', List.foldl_append]
    rfl
theorem Bx.pts_one {ps : List (Int × Int)} (h : 0 < ps.length) : Bx.pts (ps.take 1) = Bx.one ps[0] := by
  cases ps with
  | nil => simp at h
  | cons p ps => simp [Bx.pts]

def Bx.uni (a b : Bx) : Bx := if a.val then (if b.val then ⟨min a.x0 b.x0, min a.y0 b.y0, max a.x1 b.x1, max a.y1 b.y1⟩ else a) else if b.val then b else Bx.zero
def Bx.ovl (a b : Bx) : Bool := a.val && b.val && decide (a.x0 ≤ b.x1) && decide (b.x0 ≤ a.x1) && decide (a.y0 ≤ b.y1) && decide (b.y0 ≤ a.y1)
def Bx.con (a b : Bx) : Bool := a.val && b.val && decide (a.x0 ≤ b.x0) && decide (b.x1 ≤ a.x1) && decide (a.y0 ≤ b.y0) && decide (b.y1 ≤ a.y1)
def Bx.has (b : Bx) (x y : Int) : Bool := b.val && decide (b.x0 ≤ sat x) && decide (sat x ≤ b.x1) && decide (b.y0 ≤ sat y) && decide (sat y ≤ b.y1)
def Bx.mar (b : Bx) (m : Int) : Bx := ⟨sub b.x0 m, sub b.y0 m, add b.x1 m, add b.y1 m⟩
def Bx.exp (b : Bx) (m : Int) : Bx := if b.val && (b.mar m).val then b.mar m else Bx.zero
def Bx.hp (b : Bx) : Int := if b.val then add (sub b.x1 b.x0) (sub b.y1 b.y0) else 0

/-- The union of two valid boxes, as the box of its corners. -/
theorem Bx.uni4 {ax0 ay0 ax1 ay1 bx0 by0 bx1 by1 : Int} (h1 : (Bx.mk ax0 ay0 ax1 ay1).val = true) (h2 : (Bx.mk bx0 by0 bx1 by1).val = true) : Bx.uni ⟨ax0, ay0, ax1, ay1⟩ ⟨bx0, by0, bx1, by1⟩ =
    ⟨min (min (min (sat ax0) (sat ax1)) (sat bx0)) (sat bx1), min (min (min (sat ay0) (sat ay1)) (sat by0)) (sat by1), max (max (max (sat ax0) (sat ax1)) (sat bx0)) (sat bx1), max (max (max (sat ay0) (sat ay1)) (sat by0)) (sat by1)⟩ := by
  obtain ⟨p1, p2, p3, p4, p5, p6⟩ := Bx.val_iff.1 h1
  obtain ⟨q1, q2, q3, q4, q5, q6⟩ := Bx.val_iff.1 h2
  simp only [Bx.uni, h1, h2, if_true]
  simp only at p1 p2 p3 p4 p5 p6 q1 q2 q3 q4 q5 q6
  rw [← p3, ← p4, ← p5, ← p6, ← q3, ← q4, ← q5, ← q6]
  simp only [Bx.mk.injEq]
  omega

/-- The corners of a box, in the order of the text; on which side of the line each lies; how many lie on a side. -/
def Bx.cx (b : Bx) (k : Nat) : Int := if k = 1 ∨ k = 2 then b.x1 else b.x0
def Bx.cy (b : Bx) (k : Nat) : Int := if k = 2 ∨ k = 3 then b.y1 else b.y0
def Bx.side (b : Bx) (fx fy tx ty : Int) (k : Nat) : Int := orient fx fy tx ty (b.cx k) (b.cy k)
def Bx.count (b : Bx) (fx fy tx ty s : Int) : Nat → Int
  | 0 => 0
  | k + 1 => b.count fx fy tx ty s k + if b.side fx fy tx ty k = s then 1 else 0
theorem Bx.count_in (b : Bx) (fx fy tx ty s : Int) : ∀ k : Nat, 0 ≤ b.count fx fy tx ty s k ∧ b.count fx fy tx ty s k ≤ k
  | 0 => by simp [Bx.count]
  | k + 1 => by
    have := Bx.count_in b fx fy tx ty s k
    unfold Bx.count; split <;> omega
/-- The box of two points. -/
def Bx.two (fx fy tx ty : Int) : Bx := ⟨min (sat fx) (sat tx), min (sat fy) (sat ty), max (sat fx) (sat tx), max (sat fy) (sat ty)⟩
def Bx.seg (b : Bx) (fx fy tx ty : Int) : Bool := b.ovl (Bx.two fx fy tx ty) && decide (b.count fx fy tx ty 1 4 < 4) && decide (b.count fx fy tx ty (-1) 4 < 4)

/-! The same with the numbers one by one (a structure that is written out is no fit pattern for simp where its parts are another's projections). -/
def val4 (a0 a1 a2 a3 : Int) : Bool := (Bx.mk a0 a1 a2 a3).val
def ovl8 (a0 a1 a2 a3 b0 b1 b2 b3 : Int) : Bool := Bx.ovl ⟨a0, a1, a2, a3⟩ ⟨b0, b1, b2, b3⟩
def con8 (a0 a1 a2 a3 b0 b1 b2 b3 : Int) : Bool := Bx.con ⟨a0, a1, a2, a3⟩ ⟨b0, b1, b2, b3⟩
def has6 (a0 a1 a2 a3 x y : Int) : Bool := Bx.has ⟨a0, a1, a2, a3⟩ x y
def hp4 (a0 a1 a2 a3 : Int) : Int := Bx.hp ⟨a0, a1, a2, a3⟩
def seg8 (a0 a1 a2 a3 fx fy tx ty : Int) : Bool := Bx.seg ⟨a0, a1, a2, a3⟩ fx fy tx ty
theorem val4_eq (a0 a1 a2 a3 : Int) : (Bx.mk a0 a1 a2 a3).val = val4 a0 a1 a2 a3 := rfl

end Go.Proofs.Ytconfbdnhalmoaa.Fx
