/- Slices of numbers among a statement's arguments. No program is imported. -/
import Derived.Test.YtmdnbmekbhljkaaRow
import Derived.Test.YtmdnbmekbhljkaaOp
import Derived.ChangeSlices
import Derived.Deep.SlicePairs
set_option linter.unusedVariables false
namespace Go.Proofs.Ytmdnbmekbhljkaa
open Go.RowKit

section
open Go.ChangeShapes Go.WideShapes Go.Deep
/-- A slice of numbers among a statement's arguments. -/
theorem open_ik {H : Type} {enc : TypeId × Value → H} {P : Program} {w : World} {base B : Nat} {spare : Nat → Bool} {held : Bool} {t e : TypeId} {k : IntKind} {v : Value} {d : DataW H} {pl : List MemPlace} (ht : P.underlying t = some (.slice e)) (he : P.underlying e = some (.int k))
    (ce : P.cellsOf e = 1) (h : DataW.Trod enc P w base spare held t v d pl) (hv : Value.okWide P w .any B t v) : ∃ (A : Option Addr) (cap : Nat) (ns : List Int), v = .slice A ns.length cap ∧ ns.length ≤ cap ∧ cap ≤ maxLen ∧ Cs w A (ns.map (Value.int k)) ∧ ∀ n ∈ ns, (Lit.int k n).wf = true := by
  simp only [Value.okWide, ht, Cell.okWide] at hv
  obtain ⟨fuel, h⟩ := h
  cases v with
  | slice A len cap =>
    rcases open_ints ht he ce h with ⟨e1, _⟩ | ⟨a, len', cap', zs, e1, _, hl, hm, hzl, _, hz, hwf⟩
    · simp [Value.cells] at e1
      obtain ⟨rfl, rfl, rfl⟩ := e1
      exact ⟨none, 0, [], rfl, Nat.le_refl _, by decide, .inl rfl, by simp⟩
    · simp [Value.cells] at e1
      obtain ⟨rfl, rfl, rfl⟩ := e1
      have hspot : a.spot = none := by
        simp only [Cell.ok, ht] at hv
        exact hv.2.2.2.1
      have hlm : len ≤ zs.length := by rw [hzl]; split <;> omega
      have hlen : (zs.take len).length = len := by rw [List.length_take]; omega
      refine ⟨some a, cap, zs.take len, by rw [hlen], by omega, hm, ?_, fun n hn => hwf n (List.mem_of_mem_take hn)⟩
      obtain ⟨ab, ao, asp⟩ := a
      simp only at hspot; subst hspot
      refine .inr ⟨ab, ao, rfl, fun i hi => ?_⟩
      have hi' : i < len := by rw [List.length_map, hlen] at hi; exact hi
      have ea : ∀ n, (Addr.mk ab ao none).add n = ⟨ab, ao + n, none⟩ := fun n => by
        unfold Addr.add; split
        · rename_i h0; subst h0; rfl
        · rfl
      have := hz i (by omega)
      rw [ea] at this
      rw [this]
      simp [show i < zs.length by omega]
  | _ => simp [Cell.ok, ht] at hv
theorem open_ik2 {H : Type} {enc : TypeId × Value → H} {P : Program} {w : World} {base B : Nat} {spare : Nat → Bool} {held : Bool} {t e : TypeId} {k : IntKind} {v : Value} {d : DataW H} {pl : List MemPlace} (ht : P.underlying t = some (.slice e)) (he : P.underlying e = some (.int k))
    (ce : P.cellsOf e = 1) (h : DataW.Trod enc P w base spare held t v d pl) (hv : Value.okWide P w .any B t v) : ∃ (A : Option Addr) (cap : Nat) (ns : List Int), v = .slice A ns.length cap ∧ ns.length ≤ cap ∧ cap ≤ maxLen ∧ Cs w A (ns.map (Value.int k)) ∧ (∀ n ∈ ns, (Lit.int k n).wf = true) ∧ (A = none → cap = 0) := by
  obtain ⟨A, cap, ns, rfl, h1, h2, h3, h4⟩ := open_ik ht he ce h hv
  refine ⟨A, cap, ns, rfl, h1, h2, h3, h4, fun hA => ?_⟩
  subst hA
  simp only [Value.okWide, ht, Cell.okWide] at hv
  obtain ⟨fuel, h⟩ := h
  rcases open_ints ht he ce h with ⟨e1, _⟩ | ⟨a, len', cap', zs, e1, _⟩
  · simp [Value.cells] at e1; exact e1.2
  · simp [Value.cells] at e1
theorem wf_u8 {ns : List Int} (h : ∀ n ∈ ns, (Lit.int .u8 n).wf = true) : ∀ x ∈ ns, 0 ≤ x ∧ x < 256 := fun x hx => by
  have := h x hx
  simp [Lit.wf, IntKind.min, IntKind.max, IntKind.signed, IntKind.bits] at this
  omega
theorem wf_i64 {ns : List Int} (h : ∀ n ∈ ns, (Lit.int .i64 n).wf = true) : ∀ x ∈ ns, -9223372036854775808 ≤ x ∧ x ≤ 9223372036854775807 := fun x hx => by
  have := h x hx
  simp [Lit.wf, IntKind.min, IntKind.max, IntKind.signed, IntKind.bits] at this
  omega
end

end Go.Proofs.Ytmdnbmekbhljkaa
