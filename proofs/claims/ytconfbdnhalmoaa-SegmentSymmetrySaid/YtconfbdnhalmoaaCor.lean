/- The corners of a box in memory. No program is imported. -/
import Derived.Test.YtconfbdnhalmoaaRow
import Derived.Test.YtconfbdnhalmoaaBx
set_option linter.unusedVariables false
namespace Go.Proofs.Ytconfbdnhalmoaa
open Go.RowKit

/-- The corners of a box, laid in memory as points. -/
theorem corner_at {w : World} {b : Nat} {t : TypeId} {x0 y0 x1 y1 : Int} (h : blk w b #[.int .i64 x0, .int .i64 y0, .int .i64 x1, .int .i64 y0, .int .i64 x1, .int .i64 y1, .int .i64 x0, .int .i64 y1] t) {k : Nat} (hk : k < 4) :
    w.cell? ⟨b, k * 2, none⟩ = some (.int .i64 (Fx.Bx.cx ⟨x0, y0, x1, y1⟩ k)) ∧ w.cell? ⟨b, k * 2 + 1, none⟩ = some (.int .i64 (Fx.Bx.cy ⟨x0, y0, x1, y1⟩ k)) := by
  rw [blk_cell h, blk_cell h]
  match k, hk with
  | 0, _ => exact ⟨rfl, rfl⟩
  | 1, _ => exact ⟨rfl, rfl⟩
  | 2, _ => exact ⟨rfl, rfl⟩
  | 3, _ => exact ⟨rfl, rfl⟩
  | n + 4, h => omega

end Go.Proofs.Ytconfbdnhalmoaa
