/- Contracts of package aabb and of its reference: each returns what the Lean functions of the same meaning give, and nothing that existed has changed. No conditions.
Contracts of package aabb: each returns what the Lean functions of the same meaning give, and nothing that existed has changed. No conditions.
Contracts of package aabb, those with loops: each returns what the Lean functions of the same meaning give, and nothing that existed has changed. No conditions but the slices' own. -/
import Derived.Test.YtiahkaonbkmffaaCo2
import Derived.Test.YtiahkaonbkmffaaKi1
import Derived.Test.YtiahkaonbkmffaaKi2
import Derived.Test.YtiahkaonbkmffaaMa1
import Derived.Outline
import Derived.Test.YtiahkaonbkmffaaMa2

set_option linter.unusedVariables false
namespace Go.Proofs.Ytiahkaonbkmffaa
open Go.RowKit Fx

end Go.Proofs.Ytiahkaonbkmffaa

set_option linter.unusedVariables false
namespace Go.Proofs.Ytiahkaonbkmffaa
open Go.RowKit Fx

def vr (l h : Int) : Bool := decide (-536870911 ≤ l) && decide (l ≤ h) && decide (h ≤ 536870911)
theorem val4_vr (x0 y0 x1 y1 : Int) : val4 x0 y0 x1 y1 = (vr x0 x1 && vr y0 y1) := by
  have e : ∀ z, z = sat z ↔ -536870911 ≤ z ∧ z ≤ 536870911 := fun z => by unfold sat; split <;> (try split) <;> omega
  rw [Bool.eq_iff_iff]
  simp only [val4, Bx.val_iff, Bx.ok, vr, Bool.and_eq_true, decide_eq_true_eq]
  rw [e x0, e y0, e x1, e y1]
  omega
theorem has_con (x0 y0 x1 y1 x y : Int) : has6 x0 y0 x1 y1 x y = con8 x0 y0 x1 y1 (sat x) (sat y) (sat x) (sat y) := by
  rw [Bool.eq_iff_iff]
  simp only [has6, con8, Bx.has_iff, Bx.con_iff]
  have := Bx.one_ok (x, y)
  simp only [Bx.one] at this
  constructor
  · intro ⟨h, h1⟩; exact ⟨h, this, by omega⟩
  · intro ⟨h, _, h1⟩; exact ⟨h, by omega⟩
def meet8 (x0 y0 x1 y1 fx fy tx ty : Int) : Bool :=
  let s := fun k => orient fx fy tx ty (Bx.cx ⟨x0, y0, x1, y1⟩ k) (Bx.cy ⟨x0, y0, x1, y1⟩ k)
  decide (s 0 = 0) || decide (¬ s 1 = s 0) || decide (¬ s 2 = s 0) || decide (¬ s 3 = s 0)
theorem seg_meet (x0 y0 x1 y1 fx fy tx ty : Int) : seg8 x0 y0 x1 y1 fx fy tx ty = (ovl8 x0 y0 x1 y1 (min (sat fx) (sat tx)) (min (sat fy) (sat ty)) (max (sat fx) (sat tx)) (max (sat fy) (sat ty)) && meet8 x0 y0 x1 y1 fx fy tx ty) := by
  rw [Bool.eq_iff_iff, Bool.and_eq_true]
  have e0 : ovl8 x0 y0 x1 y1 (min (sat fx) (sat tx)) (min (sat fy) (sat ty)) (max (sat fx) (sat tx)) (max (sat fy) (sat ty)) = Bx.ovl ⟨x0, y0, x1, y1⟩ (Bx.two fx fy tx ty) := rfl
  rw [e0, show seg8 x0 y0 x1 y1 fx fy tx ty = Bx.seg ⟨x0, y0, x1, y1⟩ fx fy tx ty from rfl, Bx.seg_iff]
  refine and_congr_right fun _ => ?_
  have hs : ∀ k, Bx.side ⟨x0, y0, x1, y1⟩ fx fy tx ty k = 0 ∨ Bx.side ⟨x0, y0, x1, y1⟩ fx fy tx ty k = 1 ∨ Bx.side ⟨x0, y0, x1, y1⟩ fx fy tx ty k = -1 := fun k => by
    unfold Bx.side orient sgn; split <;> (try split) <;> omega
  have h0 := hs 0; have h1 := hs 1; have h2 := hs 2; have h3 := hs 3
  have q : ∀ s : Int, (∀ k, k < 4 → Bx.side ⟨x0, y0, x1, y1⟩ fx fy tx ty k = s) ↔ Bx.side ⟨x0, y0, x1, y1⟩ fx fy tx ty 0 = s ∧ Bx.side ⟨x0, y0, x1, y1⟩ fx fy tx ty 1 = s ∧ Bx.side ⟨x0, y0, x1, y1⟩ fx fy tx ty 2 = s ∧ Bx.side ⟨x0, y0, x1, y1⟩ fx fy tx ty 3 = s := fun s =>
    ⟨fun h => ⟨h 0 (by omega), h 1 (by omega), h 2 (by omega), h 3 (by omega)⟩, fun ⟨a, b, c, d⟩ k hk => by
      match k, hk with
      | 0, _ => exact a
      | 1, _ => exact b
      | 2, _ => exact c
      | 3, _ => exact d
      | n + 4, h => omega⟩
  rw [q 1, q (-1)]
  simp only [meet8, Bool.or_eq_true, decide_eq_true_eq]
  unfold Bx.side at *
  omega

end Go.Proofs.Ytiahkaonbkmffaa

set_option linter.unusedVariables false
namespace Go.Proofs.Ytiahkaonbkmffaa
open Go.RowKit Fx

end Go.Proofs.Ytiahkaonbkmffaa
