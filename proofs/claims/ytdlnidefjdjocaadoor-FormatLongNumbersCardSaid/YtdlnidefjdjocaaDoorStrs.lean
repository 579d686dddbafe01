/- Slices of strings in memory and among a statement's arguments. No program is imported. -/
import Derived.Test.YtdlnidefjdjocaaDoorRow
import Derived.Test.YtdlnidefjdjocaaDoorByt
import Derived.Test.YtdlnidefjdjocaaDoorOp
import Derived.SliceStrings
set_option linter.unusedVariables false
namespace Go.Proofs.YtdlnidefjdjocaaDoor
open Go.RowKit

/-- Strings as cells. -/
def sv (l : List ByteArray) : List Value := l.map Value.string
@[simp] theorem sv_length (l : List ByteArray) : (sv l).length = l.length := by simp [sv]
theorem sv_append (a b : List ByteArray) : sv (a ++ b) = sv a ++ sv b := by simp [sv]
theorem sv_one (l : List ByteArray) : ∀ u ∈ sv l, u.oneCell' = true := fun u hu => by
  obtain ⟨_, _, rfl⟩ := List.mem_map.1 hu; rfl
abbrev Strs (w : World) (A : Option Addr) (l : List ByteArray) : Prop := Cs w A (sv l)
theorem Strs.open {w : World} {A : Option Addr} {l : List ByteArray} (h : Strs w A l) (h0 : 0 < l.length) : ∃ b off, A = some ⟨b, off, none⟩ ∧ ∀ i (h : i < l.length), w.cell? ⟨b, off + i, none⟩ = some (.string l[i]) := by
  obtain ⟨b, off, hA, hc⟩ := Cs.open h (by simpa using h0)
  exact ⟨b, off, hA, fun i hi => by rw [hc i (by simpa using hi)]; simp [sv]⟩

section
open Go.ChangeShapes Go.WideShapes
/-- A slice of strings among a statement's arguments. -/
theorem open_st {H : Type} {enc : TypeId × Value → H} {P : Program} {w : World} {base B : Nat} {spare : Nat → Bool} {held : Bool} {t e : TypeId} {v : Value} {d : DataW H} {pl : List MemPlace} (ht : P.underlying t = some (.slice e)) (he : P.underlying e = some .string)
    (ce : P.cellsOf e = 1) (h : DataW.Trod enc P w base spare held t v d pl) (hv : Value.okWide P w .any B t v) : ∃ (A : Option Addr) (cap : Nat) (l : List ByteArray), v = .slice A l.length cap ∧ l.length ≤ cap ∧ cap ≤ maxLen ∧ Strs w A l ∧ (∀ s ∈ l, s.size ≤ maxLen) ∧ (A = none → cap = 0) := by
  simp only [Value.okWide, ht, Cell.okWide] at hv
  obtain ⟨fuel, h⟩ := h
  cases v with
  | slice A len cap =>
    rcases open_strings ht he ce h with ⟨e1, _⟩ | ⟨a, len', cap', zs, e1, _, hl, hm, hzl, _, hz, hwf⟩
    · simp [Value.cells] at e1
      obtain ⟨rfl, rfl, rfl⟩ := e1
      exact ⟨none, 0, [], rfl, Nat.le_refl _, by decide, .inl rfl, by simp, fun _ => rfl⟩
    · simp [Value.cells] at e1
      obtain ⟨rfl, rfl, rfl⟩ := e1
      have hspot : a.spot = none := by
        simp only [Cell.ok, ht] at hv
        exact hv.2.2.2.1
      have hlm : len ≤ zs.length := by rw [hzl]; split <;> omega
      have hlen : (zs.take len).length = len := by rw [List.length_take]; omega
      refine ⟨some a, cap, zs.take len, by rw [hlen], by omega, hm, ?_, fun n hn => hwf n (List.mem_of_mem_take hn), fun h => by cases h⟩
      obtain ⟨ab, ao, asp⟩ := a
      simp only at hspot; subst hspot
      refine .inr ⟨ab, ao, rfl, fun i hi => ?_⟩
      have hi' : i < len := by rw [sv_length, hlen] at hi; exact hi
      have ea : ∀ n, (Addr.mk ab ao none).add n = ⟨ab, ao + n, none⟩ := fun n => by
        unfold Addr.add; split
        · rename_i h0; subst h0; rfl
        · rfl
      have := hz i (by omega)
      rw [ea] at this
      rw [this]
      simp [sv, show i < zs.length by omega]
  | _ => simp [Cell.ok, ht] at hv
end

end Go.Proofs.YtdlnidefjdjocaaDoor
