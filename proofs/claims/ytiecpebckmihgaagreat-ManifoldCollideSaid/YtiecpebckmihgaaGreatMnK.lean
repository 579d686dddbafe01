/- Contracts of package manifold: Clone and Flip with the new points' block (chapter 16: ManifoldFlip). -/
import Derived.Test.YtiecpebckmihgaaGreatMnZ
import Derived.Test.YtiecpebckmihgaaGreatMnL
set_option linter.unusedVariables false
namespace Go.Proofs.YtiecpebckmihgaaGreat
open Go.RowKit Fx

def FrB (w : World) (B : Nat) (A : Option Addr) (l : List Cnt) : Prop := l = [] ∨ ∃ b c t, A = some ⟨b, 0, none⟩ ∧ B ≤ b ∧ blk w b c t
def MnB (w : World) (m : Mn) (e : Ending) (w' : World) : Prop := (∃ A' cap', e = .returned (.agg #[.int .i64 m.nx, .int .i64 m.ny, .slice A' m.l.length cap']) ∧ m.l.length ≤ cap' ∧ cap' ≤ maxLen ∧ (A' = none → cap' = 0) ∧ Cnts w' A' m.l ∧ FrB w' w.heap.size A' m.l) ∧ Below w.heap.size w w'
theorem mnb_mk {w w' : World} {nx ny : Int} {l : List Cnt} {A' : Option Addr} {cap' : Nat} (h1 : l.length ≤ cap') (h2 : cap' ≤ maxLen) (h3 : A' = none → cap' = 0) (h4 : Cnts w' A' l) (h5 : FrB w' w.heap.size A' l) (h6 : Below w.heap.size w w') : MnB w ⟨nx, ny, l⟩ (.returned (.agg #[.int .i64 nx, .int .i64 ny, .slice A' l.length cap'])) w' :=
  ⟨⟨A', cap', rfl, h1, h2, h3, h4, h5⟩, h6⟩
theorem mnb_ex {P : Program} {f : FuncId} {args : Array Value} {w : World} {m : Mn} (h : Calls P f args w (MnB w m)) : Calls P f args w fun e w' => (∃ A' cap', e = .returned (.agg #[.int .i64 m.nx, .int .i64 m.ny, .slice A' m.l.length cap']) ∧ m.l.length ≤ cap' ∧ cap' ≤ maxLen ∧ (A' = none → cap' = 0) ∧ Cnts w' A' m.l ∧ FrB w' w.heap.size A' m.l) ∧ ∃ q, w' = gw w q :=
  h.mono fun e w' ⟨h1, h2⟩ => ⟨h1, gw_of_below h2⟩
theorem cnts_ne {w : World} {b b' off : Nat} {x y z : Value} {t : TypeId} {l : List Cnt} (hk : blk w b #[x, y, z] t) (hp : Cnts w (some ⟨b', off, none⟩) l) (h0 : 0 < l.length) : b' ≠ b := by
  rintro rfl
  obtain ⟨b1, o1, e, hc⟩ := cnts_open hp h0
  cases e
  obtain ⟨-, -, -, -, -, h5⟩ := hc 0 h0 w (Below.refl _ _)
  rw [blk_cell hk] at h5
  rw [Array.getElem?_eq_none (by first | (simp; done) | (simp; omega))] at h5
  cases h5
end Go.Proofs.YtiecpebckmihgaaGreat
