/- Vertices with identifiers (chapter 15) in memory: what their cells say, and slices of them. -/
import Derived.Test.YtiecpebckmihgaaGreatDat
import Derived.Test.YtiecpebckmihgaaGreatChecked
set_option linter.unusedVariables false
namespace Go.Proofs.YtiecpebckmihgaaGreat
open Go.RowKit

structure Vtx where
  x : Int
  y : Int
  id : Int
  deriving DecidableEq, Inhabited
def vtc (f : Vtx) : List Value := [.int .i64 f.x, .int .i64 f.y, .int .i64 f.id]
abbrev Vts (w : World) (A : Option Addr) (l : List Vtx) : Prop := Els w 3 (fun cs f => cs = vtc f) A l
theorem Vts.to {w w' : World} {A : Option Addr} {l : List Vtx} (h : Vts w A l) (hb : Below w.heap.size w w') : Vts w' A l := Els.to h (by decide) (fun _ _ h => h) hb
theorem vts_open {w : World} {A : Option Addr} {l : List Vtx} (h : Vts w A l) (h0 : 0 < l.length) : ∃ b off, A = some ⟨b, off, none⟩ ∧ ∀ i (h : i < l.length) w', Below w.heap.size w w' → w'.cell? ⟨b, off + i * 3, none⟩ = some (.int .i64 l[i].x) ∧ w'.cell? ⟨b, off + i * 3 + 1, none⟩ = some (.int .i64 l[i].y) ∧ w'.cell? ⟨b, off + i * 3 + 2, none⟩ = some (.int .i64 l[i].id) := by
  rcases h with h | ⟨b, off, rfl, hc⟩
  · rw [h] at h0; simp at h0
  · refine ⟨b, off, rfl, fun i hi w' hb => ?_⟩
    obtain ⟨cs, _, k, rfl⟩ := hc i hi
    have k0 := k 0 (by decide)
    have hlt := World.block_lt_of_cell? w ⟨b, off + i * 3 + 0, none⟩ (show _ = some (Value.int .i64 l[i].x) from k0)
    exact ⟨(hb.cell (p := ⟨b, off + i * 3 + 0, none⟩) hlt).trans k0, (hb.cell (p := ⟨b, off + i * 3 + 1, none⟩) hlt).trans (k 1 (by decide)), (hb.cell (p := ⟨b, off + i * 3 + 2, none⟩) hlt).trans (k 2 (by decide))⟩

section
open Go.ChangeShapes Go.WideShapes Go.Deep
variable {H : Type} {enc : TypeId × Value → H} {w : World} {base B : Nat} {spare : Nat → Bool} {held : Bool}
end

end Go.Proofs.YtiecpebckmihgaaGreat
