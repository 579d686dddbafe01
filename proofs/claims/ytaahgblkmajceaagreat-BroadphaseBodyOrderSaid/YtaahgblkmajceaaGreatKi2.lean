/- Slices of points in memory: what the cells hold; worlds that have grown. No program is imported.
Slices of points among a statement's arguments: no memory, no capacity. No program is imported.
A shape (two numbers and a slice of points) among a statement's arguments. No program is imported.
The corners of a box in memory. No program is imported. -/
import Derived.Test.YtaahgblkmajceaaGreatKi1
import Derived.LoopTactic
import Derived.Deep.SlicePairs
import Derived.Lib.SmallJoins
import Derived.Test.YtaahgblkmajceaaGreatMa1

set_option linter.unusedVariables false
namespace Go.Proofs.YtaahgblkmajceaaGreat
open Go.RowKit

section
open Go.ChangeShapes Go.WideShapes Go.Deep
/-- A slice of points among a statement's arguments. -/
theorem open_pts {H : Type} {enc : TypeId × Value → H} {P : Program} {w : World} {base B : Nat} {spare : Nat → Bool} {held : Bool} {t e : TypeId} {f0 f1 : Field} {v : Value} {d : DataW H} {pl : List MemPlace} (ht : P.underlying t = some (.slice e)) (he : P.underlying e = some (.struct #[f0, f1]))
    (ce : P.cellsOf e = 2) (o0 : f0.offset = 0) (o1 : f1.offset = 1) (c0 : P.cellsOf f0.type = 1) (c1 : P.cellsOf f1.type = 1) (i0 : P.underlying f0.type = some (.int .i64)) (i1 : P.underlying f1.type = some (.int .i64))
    (h : DataW.Trod enc P w base spare held t v d pl) (hv : Value.okWide P w .any B t v) : ∃ (A : Option Addr) (cap : Nat) (ps : List (Int × Int)), v = .slice A ps.length cap ∧ ps.length ≤ cap ∧ cap ≤ maxLen ∧ Pts w A ps := by
  simp only [Value.okWide, ht, Cell.okWide] at hv
  obtain ⟨fuel, h⟩ := h
  cases v with
  | slice A len cap =>
    rcases open_slice_pairs ht he ce o0 o1 c0 c1 h with ⟨e1, _⟩ | ⟨a, len', cap', m, n, V0, V1, D0, D1, P0, P1, e1, _, hl, hm, hmm, _, hx⟩
    · simp [Value.cells] at e1
      obtain ⟨rfl, rfl, rfl⟩ := e1
      exact ⟨none, 0, [], rfl, Nat.le_refl _, by decide, .inl rfl⟩
    · simp [Value.cells] at e1
      obtain ⟨rfl, rfl, rfl⟩ := e1
      have hspot : a.spot = none := by
        simp only [Cell.ok, ht] at hv
        exact hv.2.2.2.1
      have hlm : len ≤ m := by rw [hmm]; split <;> omega
      have each : ∀ i, i < len → ∃ x y : Int, V0 i = .int .i64 x ∧ V1 i = .int .i64 y := fun i hi => by
        obtain ⟨_, _, h3, h4⟩ := hx i (by omega)
        obtain ⟨x, hx1, _⟩ := DataW.trod_int i0 h3
        obtain ⟨y, hy1, _⟩ := DataW.trod_int i1 h4
        exact ⟨x, y, by simpa using hx1, by simpa using hy1⟩
      let ps : List (Int × Int) := (List.range len).map fun i => (intOf (V0 i), intOf (V1 i))
      have hlen : ps.length = len := by simp [ps]
      refine ⟨some a, cap, ps, by rw [hlen], by omega, hm, ?_⟩
      refine .inr ⟨a.block, a.off, by cases a; simp only at hspot; subst hspot; rfl, fun i hi => ?_⟩
      obtain ⟨x, y, ex, ey⟩ := each i (by omega)
      obtain ⟨h1, h2, _, _⟩ := hx i (by omega)
      have g0 : ps[i].1 = x := by simp [ps, ex, intOf]
      have g1 : ps[i].2 = y := by simp [ps, ey, intOf]
      rw [g0, g1, ← ex, ← ey]
      obtain ⟨ab, ao, asp⟩ := a
      simp only at hspot; subst hspot
      have ea : ∀ n, (Addr.mk ab ao none).add n = ⟨ab, ao + n, none⟩ := fun n => by
        unfold Addr.add; split
        · rename_i h0; subst h0; rfl
        · rfl
      rw [ea] at h1 h2
      exact ⟨h1, by rw [← Nat.add_assoc] at h2; exact h2⟩
  | _ => simp [Cell.ok, ht] at hv
end

end Go.Proofs.YtaahgblkmajceaaGreat

set_option linter.unusedVariables false
namespace Go.Proofs.YtaahgblkmajceaaGreat
open Go.RowKit

section
open Go.ChangeShapes Go.WideShapes Go.Deep
theorem open_pts2 {H : Type} {enc : TypeId × Value → H} {P : Program} {w : World} {base B : Nat} {spare : Nat → Bool} {held : Bool} {t e : TypeId} {f0 f1 : Field} {v : Value} {d : DataW H} {pl : List MemPlace} (ht : P.underlying t = some (.slice e)) (he : P.underlying e = some (.struct #[f0, f1]))
    (ce : P.cellsOf e = 2) (o0 : f0.offset = 0) (o1 : f1.offset = 1) (c0 : P.cellsOf f0.type = 1) (c1 : P.cellsOf f1.type = 1) (i0 : P.underlying f0.type = some (.int .i64)) (i1 : P.underlying f1.type = some (.int .i64))
    (h : DataW.Trod enc P w base spare held t v d pl) (hv : Value.okWide P w .any B t v) : ∃ (A : Option Addr) (cap : Nat) (ps : List (Int × Int)), v = .slice A ps.length cap ∧ ps.length ≤ cap ∧ cap ≤ maxLen ∧ Pts w A ps ∧ (A = none → cap = 0) := by
  obtain ⟨A, cap, ps, rfl, h1, h2, h3⟩ := open_pts ht he ce o0 o1 c0 c1 i0 i1 h hv
  refine ⟨A, cap, ps, rfl, h1, h2, h3, fun hA => ?_⟩
  subst hA
  simp only [Value.okWide, ht, Cell.okWide] at hv
  obtain ⟨fuel, h⟩ := h
  rcases open_slice_pairs ht he ce o0 o1 c0 c1 h with ⟨e1, _⟩ | ⟨a, len', cap', m, n, V0, V1, D0, D1, P0, P1, e1, _⟩
  · simp [Value.cells] at e1; exact e1.2
  · simp [Value.cells] at e1
end

end Go.Proofs.YtaahgblkmajceaaGreat

set_option linter.unusedVariables false
namespace Go.Proofs.YtaahgblkmajceaaGreat
open Go.RowKit Opn

section
open Go.ChangeShapes Go.WideShapes Go.Deep Go.Lib
theorem open_shape {H : Type} {enc : TypeId × Value → H} {P : Program} {w : World} {base B : Nat} {spare : Nat → Bool} {held : Bool} {t e : TypeId} {k0 k1 k2 f0 f1 : Field} {v : Value} {d : DataW H} {pl : List MemPlace}
    (hs : P.underlying t = some (.struct #[k0, k1, k2])) (hone : oneCellFields P #[k0, k1, k2] = true) (hC : P.cellsOf t = 3) (hct : P.cellTypes P.depth t = some [k0.type, k1.type, k2.type]) (u0 : P.underlying k0.type = some (.int .i64)) (u1 : P.underlying k1.type = some (.int .i64))
    (ht : P.underlying k2.type = some (.slice e)) (he : P.underlying e = some (.struct #[f0, f1]))
    (ce : P.cellsOf e = 2) (o0 : f0.offset = 0) (o1 : f1.offset = 1) (c0 : P.cellsOf f0.type = 1) (c1 : P.cellsOf f1.type = 1) (i0 : P.underlying f0.type = some (.int .i64)) (i1 : P.underlying f1.type = some (.int .i64))
    (h : DataW.Trod enc P w base spare held t v d pl) (hv : Value.okWide P w .any B t v) : ∃ (K R : Int) (A : Option Addr) (cap : Nat) (ps : List (Int × Int)), v = .agg #[.int .i64 K, .int .i64 R, .slice A ps.length cap] ∧ IntKind.i64.has K ∧ IntKind.i64.has R ∧ ps.length ≤ cap ∧ cap ≤ maxLen ∧ Pts w A ps ∧ (A = none → cap = 0) := by
  obtain ⟨v0, v1, v2, y0, y1, y2, n, rfl, _, _, _, _, h2⟩ := Go.Joins.open_agg3 hs hone hC hv h
  obtain ⟨cs, ecs, F0⟩ := open_flat (ts := [k0.type, k1.type, k2.type]) (by rw [hs]) hct hC hv
  obtain ⟨x0, cs0, rfl, C0, F1⟩ := fits_cons F0
  obtain ⟨x1, cs1, rfl, C1, F2⟩ := fits_cons F1
  obtain ⟨x2, cs2, rfl, C2, F3⟩ := fits_cons F2
  obtain rfl := fits_nil F3
  simp at ecs
  obtain ⟨rfl, rfl, rfl⟩ := ecs
  obtain ⟨K, rfl, bK⟩ := cell_int u0 C0
  obtain ⟨R, rfl, bR⟩ := cell_int u1 C1
  have hv2 : Value.okWide P w .any B k2.type v2 := by simp only [Value.okWide, ht]; exact C2
  have hsl : v2.cells = #[v2] := by
    simp only [Cell.okWide, ht] at C2
    cases v2 <;> simp_all [Cell.ok, Value.cells]
  obtain ⟨A, cap, ps, rfl, h3, h4, h5, h6⟩ := open_pts2 (pl := y2.2) (d := y2.1) ht he ce o0 o1 c0 c1 i0 i1 ⟨n, by rw [hsl]; exact h2⟩ hv2
  exact ⟨K, R, A, cap, ps, rfl, bK, bR, h3, h4, h5, h6⟩
end

end Go.Proofs.YtaahgblkmajceaaGreat

set_option linter.unusedVariables false
namespace Go.Proofs.YtaahgblkmajceaaGreat
open Go.RowKit

/-- The corners of a box, laid in memory as points. -/
theorem corner_at {w : World} {b : Nat} {t : TypeId} {x0 y0 x1 y1 : Int} (h : blk w b #[.int .i64 x0, .int .i64 y0, .int .i64 x1, .int .i64 y0, .int .i64 x1, .int .i64 y1, .int .i64 x0, .int .i64 y1] t) {k : Nat} (hk : k < 4) :
    w.cell? ⟨b, k * 2, none⟩ = some (.int .i64 (Fx.Bx.cx ⟨x0, y0, x1, y1⟩ k)) ∧ w.cell? ⟨b, k * 2 + 1, none⟩ = some (.int .i64 (Fx.Bx.cy ⟨x0, y0, x1, y1⟩ k)) := by
  rw [blk_cell h, blk_cell h]
  match k, hk with
  | 0, _ => exact ⟨rfl, rfl⟩
  | 1, _ => exact ⟨rfl, rfl⟩
  | 2, _ => exact ⟨rfl, rfl⟩
  | 3, _ => exact ⟨rfl, rfl⟩
  | n + 4, h => omega

end Go.Proofs.YtaahgblkmajceaaGreat
