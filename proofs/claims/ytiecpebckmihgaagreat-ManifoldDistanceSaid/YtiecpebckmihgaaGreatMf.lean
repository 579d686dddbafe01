/- Contact manifolds and their points (chapter 16) in memory: what their cells say, slices of points, a manifold as an argument. -/
import Derived.Test.YtiecpebckmihgaaGreatDat
import Derived.Test.YtiecpebckmihgaaGreatChecked
set_option linter.unusedVariables false
namespace Go.Proofs.YtiecpebckmihgaaGreat
open Go.RowKit

structure Cnt where
  x : Int
  y : Int
  sep : Int
  id : Int
  ni : Int
  ti : Int
  deriving DecidableEq, Inhabited
def cnc (f : Cnt) : List Value := [.int .i64 f.x, .int .i64 f.y, .int .i64 f.sep, .int .i64 f.id, .int .i64 f.ni, .int .i64 f.ti]
def cntQ (cs : List Value) (f : Cnt) : Prop := cs = cnc f
abbrev Cnts (w : World) (A : Option Addr) (l : List Cnt) : Prop := Els w 6 cntQ A l
theorem Cnts.to {w w' : World} {A : Option Addr} {l : List Cnt} (h : Cnts w A l) (hb : Below w.heap.size w w') : Cnts w' A l := Els.to h (by decide) (fun _ _ h => h) hb
theorem cnts_open {w : World} {A : Option Addr} {l : List Cnt} (h : Cnts w A l) (h0 : 0 < l.length) : ∃ b off, A = some ⟨b, off, none⟩ ∧ ∀ i (h : i < l.length) w', Below w.heap.size w w' → w'.cell? ⟨b, off + i * 6, none⟩ = some (.int .i64 l[i].x) ∧ w'.cell? ⟨b, off + i * 6 + 1, none⟩ = some (.int .i64 l[i].y) ∧ w'.cell? ⟨b, off + i * 6 + 2, none⟩ = some (.int .i64 l[i].sep) ∧ w'.cell? ⟨b, off + i * 6 + 3, none⟩ = some (.int .i64 l[i].id) ∧ w'.cell? ⟨b, off + i * 6 + 4, none⟩ = some (.int .i64 l[i].ni) ∧ w'.cell? ⟨b, off + i * 6 + 5, none⟩ = some (.int .i64 l[i].ti) := by
  rcases h with h | ⟨b, off, rfl, hc⟩
  · rw [h] at h0; simp at h0
  · refine ⟨b, off, rfl, fun i hi w' hb => ?_⟩
    obtain ⟨cs, _, k, rfl⟩ := hc i hi
    have k0 := k 0 (by decide)
    have hlt := World.block_lt_of_cell? w ⟨b, off + i * 6 + 0, none⟩ (show _ = some (Value.int .i64 l[i].x) from k0)
    exact ⟨(hb.cell (p := ⟨b, off + i * 6 + 0, none⟩) hlt).trans k0, (hb.cell (p := ⟨b, off + i * 6 + 1, none⟩) hlt).trans (k 1 (by decide)), (hb.cell (p := ⟨b, off + i * 6 + 2, none⟩) hlt).trans (k 2 (by decide)), (hb.cell (p := ⟨b, off + i * 6 + 3, none⟩) hlt).trans (k 3 (by decide)), (hb.cell (p := ⟨b, off + i * 6 + 4, none⟩) hlt).trans (k 4 (by decide)), (hb.cell (p := ⟨b, off + i * 6 + 5, none⟩) hlt).trans (k 5 (by decide))⟩
structure Mfr where
  nx : Int
  ny : Int
  A : Option Addr
  cap : Nat
  l : List Cnt
section
open Go.ChangeShapes Go.WideShapes Go.Deep
variable {H : Type} {enc : TypeId × Value → H} {w : World} {base B : Nat} {spare : Nat → Bool} {held : Bool}
end

end Go.Proofs.YtiecpebckmihgaaGreat
