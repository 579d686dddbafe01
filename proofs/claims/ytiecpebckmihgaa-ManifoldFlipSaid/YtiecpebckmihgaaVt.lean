/- Vertices with identifiers (chapter 15) in memory: what their cells say, and slices of them. -/
import Derived.Test.YtiecpebckmihgaaDat
import Derived.Test.YtiecpebckmihgaaChecked
set_option linter.unusedVariables false
namespace Go.Proofs.Ytiecpebckmihgaa
open Go.RowKit

/-- A point with an identifier. -/
structure Vtx where
  x : Int
  y : Int
  id : Int
  deriving DecidableEq, Inhabited
def vtc (f : Vtx) : List Value := [.int .i64 f.x, .int .i64 f.y, .int .i64 f.id]
abbrev Vts (w : World) (A : Option Addr) (l : List Vtx) : Prop := Els w 3 (fun cs f => cs = vtc f) A l
theorem Vts.to {w w' : World} {A : Option Addr} {l : List Vtx} (h : Vts w A l) (hb : Below w.heap.size w w') : Vts w' A l := Els.to h (by decide) (fun _ _ h => h) hb
theorem vts_open {w : World} {A : Option Addr} {l : List Vtx} (h : Vts w A l) (h0 : 0 < l.length) : ∃ b off, A = some ⟨b, off, none⟩ ∧ ∀ i (h : i < l.length) w', Below w.heap.size w w' → w'.cell? ⟨b, off + i * 3, none⟩ = some (.int .i64 l[i].x) ∧ w'.cell? ⟨b, off + i * 3 + 1, none⟩ = some (.int .i64 l[i].y) ∧ w'.cell? ⟨b, off + i * 3 + 2, none⟩ = some (.int .i64 l[i].id) := by
  rcases h with h | ⟨b, off, rfl, hc⟩
  · rw [h] at h0; simp at h0
  · refine ⟨b, off, rfl, fun i hi w' hb => ?_⟩
    obtain ⟨cs, _, k, rfl⟩ := hc i hi
    have k0 := k 0 (by decide)
    have hlt := World.block_lt_of_cell? w ⟨b, off + i * 3 + 0, none⟩ (show _ = some (Value.int .i64 l[i].x) from k0)
    exact ⟨(hb.cell (p := ⟨b, off + i * 3 + 0, none⟩) hlt).trans k0, (hb.cell (p := ⟨b, off + i * 3 + 1, none⟩) hlt).trans (k 1 (by decide)), (hb.cell (p := ⟨b, off + i * 3 + 2, none⟩) hlt).trans (k 2 (by decide))⟩

section
open Go.ChangeShapes Go.WideShapes Go.Deep
variable {H : Type} {enc : TypeId × Value → H} {w : World} {base B : Nat} {spare : Nat → Bool} {held : Bool}
theorem rd_Vtx {fuel : Nat} {cs : List Value} {x : DataW H × List MemPlace} (h : DataW.trod enc Try.prog w base spare held fuel 93 cs = some x) : ∃ f : Vtx, cs = vtc f := by
  have hl := (rd_struct Try.underlying93 h).1
  rw [show Try.prog.cellsOf 93 = 3 from by kernel_rfl] at hl
  obtain ⟨c0, r0, rfl, hl_0⟩ := cons_of hl
  obtain ⟨c1, r1, rfl, hl_1⟩ := cons_of hl_0
  obtain ⟨c2, r2, rfl, hl_2⟩ := cons_of hl_1
  obtain rfl := List.eq_nil_of_length_eq_zero hl_2
  obtain ⟨-, fs1⟩ := rd_struct Try.underlying93 h
  obtain ⟨_, _, g2_⟩ := fs1 0 _ rfl
  have g2 : DataW.trod enc Try.prog w base spare held _ 23 (List.take (Try.prog.cellsOf 23) (List.drop 0 [c0, c1, c2])) = _ := g2_
  clear g2_
  rw [show Try.prog.cellsOf 23 = 2 from by kernel_rfl] at g2
  replace g2 := (show DataW.trod enc Try.prog w base spare held _ 23 [c0, c1] = _ from g2)
  obtain ⟨-, fs3⟩ := rd_struct Try.underlying23 g2
  obtain ⟨_, _, g4_⟩ := fs3 0 _ rfl
  have g4 : DataW.trod enc Try.prog w base spare held _ 3 (List.take (Try.prog.cellsOf 3) (List.drop 0 [c0, c1])) = _ := g4_
  clear g4_
  rw [show Try.prog.cellsOf 3 = 1 from by kernel_rfl] at g4
  replace g4 := (show DataW.trod enc Try.prog w base spare held _ 3 [c0] = _ from g4)
  obtain ⟨a5, ea5⟩ := rd_int Try.underlying3 g4
  obtain rfl : c0 = _ := by simpa using ea5
  obtain ⟨_, _, g6_⟩ := fs3 1 _ rfl
  have g6 : DataW.trod enc Try.prog w base spare held _ 3 (List.take (Try.prog.cellsOf 3) (List.drop 1 [Value.int .i64 a5, c1])) = _ := g6_
  clear g6_
  rw [show Try.prog.cellsOf 3 = 1 from by kernel_rfl] at g6
  replace g6 := (show DataW.trod enc Try.prog w base spare held _ 3 [c1] = _ from g6)
  obtain ⟨a7, ea7⟩ := rd_int Try.underlying3 g6
  obtain rfl : c1 = _ := by simpa using ea7
  obtain ⟨_, _, g8_⟩ := fs1 1 _ rfl
  have g8 : DataW.trod enc Try.prog w base spare held _ 3 (List.take (Try.prog.cellsOf 3) (List.drop 2 [Value.int .i64 a5, Value.int .i64 a7, c2])) = _ := g8_
  clear g8_
  rw [show Try.prog.cellsOf 3 = 1 from by kernel_rfl] at g8
  replace g8 := (show DataW.trod enc Try.prog w base spare held _ 3 [c2] = _ from g8)
  obtain ⟨a9, ea9⟩ := rd_int Try.underlying3 g8
  obtain rfl : c2 = _ := by simpa using ea9
  exact ⟨⟨a5, a7, a9⟩, rfl⟩
end

end Go.Proofs.Ytiecpebckmihgaa
