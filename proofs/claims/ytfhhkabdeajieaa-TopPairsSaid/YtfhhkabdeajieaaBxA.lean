/- Boxes and operations in slices: what their cells say. -/
import Derived.Test.YtfhhkabdeajieaaBwC
import Derived.Test.YtfhhkabdeajieaaDat
import Derived.Test.YtfhhkabdeajieaaChecked
set_option linter.unusedVariables false
namespace Go.Proofs.Ytfhhkabdeajieaa
open Go.RowKit Fx

def bxc (f : Bx) : List Value := [.int .i64 f.x0, .int .i64 f.y0, .int .i64 f.x1, .int .i64 f.y1]
abbrev Bxa (w : World) (A : Option Addr) (l : List Bx) : Prop := Els w 4 (fun cs f => cs = bxc f) A l
theorem Bxa.to {w w' : World} {A : Option Addr} {l : List Bx} (h : Bxa w A l) (hb : Below w.heap.size w w') : Bxa w' A l := Els.to h (by decide) (fun _ _ h => h) hb
theorem bxa_open {w : World} {A : Option Addr} {l : List Bx} (h : Bxa w A l) (h0 : 0 < l.length) : ∃ b off, A = some ⟨b, off, none⟩ ∧ b < w.heap.size ∧ ∀ i (h : i < l.length) w', Below w.heap.size w w' → older b w' = true ∧ w'.cell? ⟨b, off + i * 4, none⟩ = some (.int .i64 l[i].x0) ∧ w'.cell? ⟨b, off + i * 4 + 1, none⟩ = some (.int .i64 l[i].y0) ∧ w'.cell? ⟨b, off + i * 4 + 2, none⟩ = some (.int .i64 l[i].x1) ∧ w'.cell? ⟨b, off + i * 4 + 3, none⟩ = some (.int .i64 l[i].y1) := by
  rcases h with h | ⟨b, off, rfl, hc⟩
  · rw [h] at h0; simp at h0
  · have hlt : b < w.heap.size := by
      obtain ⟨cs, _, k, rfl⟩ := hc 0 h0
      exact World.block_lt_of_cell? w ⟨b, off + 0 * 4 + 0, none⟩ (show _ = some (Value.int .i64 l[0].x0) from k 0 (by decide))
    refine ⟨b, off, rfl, hlt, fun i hi w' hb => ?_⟩
    obtain ⟨cs, _, k, rfl⟩ := hc i hi
    exact ⟨(by have := hb.size; simp [older]; omega), (hb.cell (p := ⟨b, off + i * 4 + 0, none⟩) hlt).trans (k 0 (by decide)), (hb.cell (p := ⟨b, off + i * 4 + 1, none⟩) hlt).trans (k 1 (by decide)), (hb.cell (p := ⟨b, off + i * 4 + 2, none⟩) hlt).trans (k 2 (by decide)), (hb.cell (p := ⟨b, off + i * 4 + 3, none⟩) hlt).trans (k 3 (by decide))⟩

/-- An operation. -/
structure Opr where
  k : Int
  i : Int
  x0 : Int
  y0 : Int
  x1 : Int
  y1 : Int
  deriving DecidableEq, Inhabited
def opc (f : Opr) : List Value := [.int .i64 f.k, .int .i64 f.i, .int .i64 f.x0, .int .i64 f.y0, .int .i64 f.x1, .int .i64 f.y1]
abbrev Oprs (w : World) (A : Option Addr) (l : List Opr) : Prop := Els w 6 (fun cs f => cs = opc f ∧ i64k f.i) A l
theorem Oprs.to {w w' : World} {A : Option Addr} {l : List Opr} (h : Oprs w A l) (hb : Below w.heap.size w w') : Oprs w' A l := Els.to h (by decide) (fun _ _ h => h) hb
theorem oprs_open {w : World} {A : Option Addr} {l : List Opr} (h : Oprs w A l) (h0 : 0 < l.length) : ∃ b off, A = some ⟨b, off, none⟩ ∧ b < w.heap.size ∧ ∀ i (h : i < l.length), i64k l[i].i ∧ ∀ w', Below w.heap.size w w' → older b w' = true ∧ w'.cell? ⟨b, off + i * 6, none⟩ = some (.int .i64 l[i].k) ∧ w'.cell? ⟨b, off + i * 6 + 1, none⟩ = some (.int .i64 l[i].i) ∧ w'.cell? ⟨b, off + i * 6 + 2, none⟩ = some (.int .i64 l[i].x0) ∧ w'.cell? ⟨b, off + i * 6 + 3, none⟩ = some (.int .i64 l[i].y0) ∧ w'.cell? ⟨b, off + i * 6 + 4, none⟩ = some (.int .i64 l[i].x1) ∧ w'.cell? ⟨b, off + i * 6 + 5, none⟩ = some (.int .i64 l[i].y1) := by
  rcases h with h | ⟨b, off, rfl, hc⟩
  · rw [h] at h0; simp at h0
  · have hlt : b < w.heap.size := by
      obtain ⟨cs, _, k, rfl, -⟩ := hc 0 h0
      exact World.block_lt_of_cell? w ⟨b, off + 0 * 6 + 0, none⟩ (show _ = some (Value.int .i64 l[0].k) from k 0 (by decide))
    refine ⟨b, off, rfl, hlt, fun i hi => ?_⟩
    obtain ⟨cs, _, k, rfl, hw⟩ := hc i hi
    refine ⟨hw, fun w' hb => ?_⟩
    exact ⟨(by have := hb.size; simp [older]; omega), (hb.cell (p := ⟨b, off + i * 6 + 0, none⟩) hlt).trans (k 0 (by decide)), (hb.cell (p := ⟨b, off + i * 6 + 1, none⟩) hlt).trans (k 1 (by decide)), (hb.cell (p := ⟨b, off + i * 6 + 2, none⟩) hlt).trans (k 2 (by decide)), (hb.cell (p := ⟨b, off + i * 6 + 3, none⟩) hlt).trans (k 3 (by decide)), (hb.cell (p := ⟨b, off + i * 6 + 4, none⟩) hlt).trans (k 4 (by decide)), (hb.cell (p := ⟨b, off + i * 6 + 5, none⟩) hlt).trans (k 5 (by decide))⟩

section
open Go.ChangeShapes Go.WideShapes Go.Deep
variable {H : Type} {enc : TypeId × Value → H} {w : World} {base B : Nat} {spare : Nat → Bool} {held : Bool}
theorem rd_intw20 {P : Program} {t : TypeId} {k : IntKind} {fuel : Nat} {cs : List Value} {x : DataW H × List MemPlace} (ht : P.underlying t = some (.int k)) (h : DataW.trod enc P w base spare held fuel t cs = some x) : ∃ n, cs = [.int k n] ∧ (Lit.int k n).wf = true := by
  obtain ⟨n, e, _, h2⟩ := DataW.trod_int ht h; exact ⟨n, e, h2⟩
theorem i64_of_wf {n : Int} (h : (Lit.int .i64 n).wf = true) : i64k n := by
  simp [Lit.wf, IntKind.min, IntKind.max, IntKind.signed, IntKind.bits] at h
  unfold i64k; omega

theorem rd_Bxr {fuel : Nat} {cs : List Value} {x : DataW H × List MemPlace} (h : DataW.trod enc Try.prog w base spare held fuel 31 cs = some x) : ∃ b : Bx, cs = bxc b := by
  have hl := (rd_struct Try.underlying31 h).1
  rw [show Try.prog.cellsOf 31 = 4 from by kernel_rfl] at hl
  obtain ⟨c0, r0, rfl, hl_0⟩ := cons_of hl
  obtain ⟨c1, r1, rfl, hl_1⟩ := cons_of hl_0
  obtain ⟨c2, r2, rfl, hl_2⟩ := cons_of hl_1
  obtain ⟨c3, r3, rfl, hl_3⟩ := cons_of hl_2
  obtain rfl := List.eq_nil_of_length_eq_zero hl_3
  obtain ⟨-, fs1⟩ := rd_struct Try.underlying31 h
  obtain ⟨_, _, g2_⟩ := fs1 0 _ rfl
  have g2 : DataW.trod enc Try.prog w base spare held _ 29 (List.take (Try.prog.cellsOf 29) (List.drop 0 [c0, c1, c2, c3])) = _ := g2_
  clear g2_
  rw [show Try.prog.cellsOf 29 = 2 from by kernel_rfl] at g2
  replace g2 := (show DataW.trod enc Try.prog w base spare held _ 29 [c0, c1] = _ from g2)
  obtain ⟨-, fs3⟩ := rd_struct Try.underlying29 g2
  obtain ⟨_, _, g4_⟩ := fs3 0 _ rfl
  have g4 : DataW.trod enc Try.prog w base spare held _ 3 (List.take (Try.prog.cellsOf 3) (List.drop 0 [c0, c1])) = _ := g4_
  clear g4_
  rw [show Try.prog.cellsOf 3 = 1 from by kernel_rfl] at g4
  replace g4 := (show DataW.trod enc Try.prog w base spare held _ 3 [c0] = _ from g4)
  obtain ⟨a5, ea5⟩ := rd_int Try.underlying3 g4
  obtain rfl : c0 = _ := by simpa using ea5
  obtain ⟨_, _, g6_⟩ := fs3 1 _ rfl
  have g6 : DataW.trod enc Try.prog w base spare held _ 3 (List.take (Try.prog.cellsOf 3) (List.drop 1 [Value.int .i64 a5, c1])) = _ := g6_
  clear g6_
  rw [show Try.prog.cellsOf 3 = 1 from by kernel_rfl] at g6
  replace g6 := (show DataW.trod enc Try.prog w base spare held _ 3 [c1] = _ from g6)
  obtain ⟨a7, ea7⟩ := rd_int Try.underlying3 g6
  obtain rfl : c1 = _ := by simpa using ea7
  obtain ⟨_, _, g8_⟩ := fs1 1 _ rfl
  have g8 : DataW.trod enc Try.prog w base spare held _ 29 (List.take (Try.prog.cellsOf 29) (List.drop 2 [Value.int .i64 a5, Value.int .i64 a7, c2, c3])) = _ := g8_
  clear g8_
  rw [show Try.prog.cellsOf 29 = 2 from by kernel_rfl] at g8
  replace g8 := (show DataW.trod enc Try.prog w base spare held _ 29 [c2, c3] = _ from g8)
  obtain ⟨-, fs9⟩ := rd_struct Try.underlying29 g8
  obtain ⟨_, _, g10_⟩ := fs9 0 _ rfl
  have g10 : DataW.trod enc Try.prog w base spare held _ 3 (List.take (Try.prog.cellsOf 3) (List.drop 0 [c2, c3])) = _ := g10_
  clear g10_
  rw [show Try.prog.cellsOf 3 = 1 from by kernel_rfl] at g10
  replace g10 := (show DataW.trod enc Try.prog w base spare held _ 3 [c2] = _ from g10)
  obtain ⟨a11, ea11⟩ := rd_int Try.underlying3 g10
  obtain rfl : c2 = _ := by simpa using ea11
  obtain ⟨_, _, g12_⟩ := fs9 1 _ rfl
  have g12 : DataW.trod enc Try.prog w base spare held _ 3 (List.take (Try.prog.cellsOf 3) (List.drop 1 [Value.int .i64 a11, c3])) = _ := g12_
  clear g12_
  rw [show Try.prog.cellsOf 3 = 1 from by kernel_rfl] at g12
  replace g12 := (show DataW.trod enc Try.prog w base spare held _ 3 [c3] = _ from g12)
  obtain ⟨a13, ea13⟩ := rd_int Try.underlying3 g12
  obtain rfl : c3 = _ := by simpa using ea13
  exact ⟨⟨a5, a7, a11, a13⟩, rfl⟩

end

end Go.Proofs.Ytfhhkabdeajieaa
