/- Slices of points in memory: what the cells hold; worlds that have grown. No program is imported. -/
import Derived.Test.YtconfbdnhalmoaaRow
import Derived.LoopTactic
import Derived.Deep.SlicePairs
import Derived.Test.YtconfbdnhalmoaaOp
set_option linter.unusedVariables false
namespace Go.Proofs.Ytconfbdnhalmoaa
open Go.RowKit

section
open Go.ChangeShapes Go.WideShapes Go.Deep
/-- A slice of points among a statement's arguments. -/
theorem open_pts {H : Type} {enc : TypeId × Value → H} {P : Program} {w : World} {base B : Nat} {spare : Nat → Bool} {held : Bool} {t e : TypeId} {f0 f1 : Field} {v : Value} {d : DataW H} {pl : List MemPlace} (ht : P.underlying t = some (.slice e)) (he : P.underlying e = some (.struct #[f0, f1]))
    (ce : P.cellsOf e = 2) (o0 : f0.offset = 0) (o1 : f1.offset = 1) (c0 : P.cellsOf f0.type = 1) (c1 : P.cellsOf f1.type = 1) (i0 : P.underlying f0.type = some (.int .i64)) (i1 : P.underlying f1.type = some (.int .i64))
    (h : DataW.Trod enc P w base spare held t v d pl) (hv : Value.okWide P w .any B t v) : ∃ (A : Option Addr) (cap : Nat) (ps : List (Int × Int)), v = .slice A ps.length cap ∧ ps.length ≤ cap ∧ cap ≤ maxLen ∧ Pts w A ps := by
  simp only [Value.okWide, ht, Cell.okWide] at hv
  obtain ⟨fuel, h⟩ := h
  cases v with
  | slice A len cap =>
    rcases open_slice_pairs ht he ce o0 o1 c0 c1 h with ⟨e1, _⟩ | ⟨a, len', cap', m, n, V0, V1, D0, D1, P0, P1, e1, _, hl, hm, hmm, _, hx⟩
    · simp [Value.cells] at e1
      obtain ⟨rfl, rfl, rfl⟩ := e1
      exact ⟨none, 0, [], rfl, Nat.le_refl _, by decide, .inl rfl⟩
    · simp [Value.cells] at e1
      obtain ⟨rfl, rfl, rfl⟩ := e1
      have hspot : a.spot = none := by
        simp only [Cell.ok, ht] at hv
        exact hv.2.2.2.1
      have hlm : len ≤ m := by rw [hmm]; split <;> omega
      have each : ∀ i, i < len → ∃ x y : Int, V0 i = .int .i64 x ∧ V1 i = .int .i64 y := fun i hi => by
        obtain ⟨_, _, h3, h4⟩ := hx i (by omega)
        obtain ⟨x, hx1, _⟩ := DataW.trod_int i0 h3
        obtain ⟨y, hy1, _⟩ := DataW.trod_int i1 h4
        exact ⟨x, y, by simpa using hx1, by simpa using hy1⟩
      let ps : List (Int × Int) := (List.range len).map fun i => (intOf (V0 i), intOf (V1 i))
      have hlen : ps.length = len := by simp [ps]
      refine ⟨some a, cap, ps, by rw [hlen], by omega, hm, ?_⟩
      refine .inr ⟨a.block, a.off, by cases a; simp only at hspot; subst hspot; rfl, fun i hi => ?_⟩
      obtain ⟨x, y, ex, ey⟩ := each i (by omega)
      obtain ⟨h1, h2, _, _⟩ := hx i (by omega)
      have g0 : ps[i].1 = x := by simp [ps, ex, intOf]
      have g1 : ps[i].2 = y := by simp [ps, ey, intOf]
      rw [g0, g1, ← ex, ← ey]
      obtain ⟨ab, ao, asp⟩ := a
      simp only at hspot; subst hspot
      have ea : ∀ n, (Addr.mk ab ao none).add n = ⟨ab, ao + n, none⟩ := fun n => by
        unfold Addr.add; split
        · rename_i h0; subst h0; rfl
        · rfl
      rw [ea] at h1 h2
      exact ⟨h1, by rw [← Nat.add_assoc] at h2; exact h2⟩
  | _ => simp [Cell.ok, ht] at hv
end

end Go.Proofs.Ytconfbdnhalmoaa
