/- Contracts of the reference of chapter 11, continued: nextCorner.
Contracts of the reference of chapter 11, continued: ends.
Own rows of points: a literal, one element appended, what lies beside it. Functions of the convex hull.
Contracts of the reference of chapter 11, continued: ConvexHull. -/
import Derived.Test.YtiecpebckmihgaaGreatCo7
import Derived.Maps.AppendAt
import Derived.OwnWalk

set_option linter.unusedVariables false
namespace Go.Proofs.YtiecpebckmihgaaGreat
open Go.RowKit Fx

end Go.Proofs.YtiecpebckmihgaaGreat

set_option linter.unusedVariables false
namespace Go.Proofs.YtiecpebckmihgaaGreat
open Go.RowKit Fx

end Go.Proofs.YtiecpebckmihgaaGreat

set_option linter.unusedVariables false
namespace Go.Proofs.YtiecpebckmihgaaGreat
open Go.RowKit Fx

theorem info_vec : (Tryz.prog.info? 27).map (fun i => (i.zero, i.size, i.bytes)) = some (some (.agg #[.int .i64 0, .int .i64 0]), 2, 16) := by kernel_rfl
theorem blk_grown {w w' : World} {row : Option Nat} (hg : w.grownBy w' row) {k : Nat} {c : Array Value} {t : TypeId} (h : blk w k c t) (hne : row ≠ some k) : blk w' k c t :=
  (hg.block k (blk_lt h) (fun e => hne e.symm)).trans h
end Go.Proofs.YtiecpebckmihgaaGreat

set_option linter.unusedVariables false
namespace Go.Proofs.YtiecpebckmihgaaGreat
open Go.RowKit Fx

def HullR (w : World) (R : List Pt) (e : Ending) (w' : World) : Prop := (∃ A' cap', e = .returned (.slice A' R.length cap') ∧ R.length ≤ cap' ∧ cap' ≤ maxLen ∧ Pts w' A' R) ∧ Below w.heap.size w w'

end Go.Proofs.YtiecpebckmihgaaGreat
