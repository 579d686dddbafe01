/- Structured data among a statement's arguments: the argument is a slice, or a struct, and its cells are read. No program is imported. -/
import Derived.Test.YtdmcdicphohlfaaGreatKi3
set_option linter.unusedVariables false
namespace Go.Proofs.YtdmcdicphohlfaaGreat
open Go.RowKit

theorem cons_of {α : Type} {l : List α} {n : Nat} (h : l.length = n + 1) : ∃ a r, l = a :: r ∧ r.length = n := by
  cases l with
  | nil => simp at h
  | cons a r => exact ⟨a, r, rfl, by simpa using h⟩

section
open Go.ChangeShapes Go.WideShapes Go.Deep
variable {H : Type} {enc : TypeId × Value → H} {P : Program} {w : World} {base B : Nat} {spare : Nat → Bool} {held : Bool}
theorem arg_struct {t : TypeId} {fs : Array Field} {v : Value} {d : DataW H} {pl : List MemPlace} (ht : P.underlying t = some (.struct fs)) (h : DataW.Trod enc P w base spare held t v d pl) (hv : Value.okWide P w .any B t v) : ∃ cs : List Value, v = .agg cs.toArray ∧ ∃ fuel, DataW.trod enc P w base spare held fuel t cs = some (d, pl) := by
  simp only [Value.okWide, ht] at hv
  obtain ⟨cs, rfl, _⟩ := hv
  obtain ⟨fuel, h⟩ := h
  exact ⟨cs.toList, by simp, fuel, h⟩
end

end Go.Proofs.YtdmcdicphohlfaaGreat
