/- Contact manifolds and their points (chapter 16) in memory: what their cells say, slices of points, a manifold as an argument. -/
import Derived.Test.YtiecpebckmihgaaDat
import Derived.Test.YtiecpebckmihgaaChecked
set_option linter.unusedVariables false
namespace Go.Proofs.Ytiecpebckmihgaa
open Go.RowKit

/-- A contact point. -/
structure Cnt where
  x : Int
  y : Int
  sep : Int
  id : Int
  ni : Int
  ti : Int
  deriving DecidableEq, Inhabited
def cnc (f : Cnt) : List Value := [.int .i64 f.x, .int .i64 f.y, .int .i64 f.sep, .int .i64 f.id, .int .i64 f.ni, .int .i64 f.ti]
def cntQ (cs : List Value) (f : Cnt) : Prop := cs = cnc f
abbrev Cnts (w : World) (A : Option Addr) (l : List Cnt) : Prop := Els w 6 cntQ A l
theorem Cnts.to {w w' : World} {A : Option Addr} {l : List Cnt} (h : Cnts w A l) (hb : Below w.heap.size w w') : Cnts w' A l := Els.to h (by decide) (fun _ _ h => h) hb
theorem cnts_open {w : World} {A : Option Addr} {l : List Cnt} (h : Cnts w A l) (h0 : 0 < l.length) : ∃ b off, A = some ⟨b, off, none⟩ ∧ ∀ i (h : i < l.length) w', Below w.heap.size w w' → w'.cell? ⟨b, off + i * 6, none⟩ = some (.int .i64 l[i].x) ∧ w'.cell? ⟨b, off + i * 6 + 1, none⟩ = some (.int .i64 l[i].y) ∧ w'.cell? ⟨b, off + i * 6 + 2, none⟩ = some (.int .i64 l[i].sep) ∧ w'.cell? ⟨b, off + i * 6 + 3, none⟩ = some (.int .i64 l[i].id) ∧ w'.cell? ⟨b, off + i * 6 + 4, none⟩ = some (.int .i64 l[i].ni) ∧ w'.cell? ⟨b, off + i * 6 + 5, none⟩ = some (.int .i64 l[i].ti) := by
  rcases h with h | ⟨b, off, rfl, hc⟩
  · rw [h] at h0; simp at h0
  · refine ⟨b, off, rfl, fun i hi w' hb => ?_⟩
    obtain ⟨cs, _, k, rfl⟩ := hc i hi
    have k0 := k 0 (by decide)
    have hlt := World.block_lt_of_cell? w ⟨b, off + i * 6 + 0, none⟩ (show _ = some (Value.int .i64 l[i].x) from k0)
    exact ⟨(hb.cell (p := ⟨b, off + i * 6 + 0, none⟩) hlt).trans k0, (hb.cell (p := ⟨b, off + i * 6 + 1, none⟩) hlt).trans (k 1 (by decide)), (hb.cell (p := ⟨b, off + i * 6 + 2, none⟩) hlt).trans (k 2 (by decide)), (hb.cell (p := ⟨b, off + i * 6 + 3, none⟩) hlt).trans (k 3 (by decide)), (hb.cell (p := ⟨b, off + i * 6 + 4, none⟩) hlt).trans (k 4 (by decide)), (hb.cell (p := ⟨b, off + i * 6 + 5, none⟩) hlt).trans (k 5 (by decide))⟩
/-- A manifold among a statement's arguments. -/
structure Mfr where
  nx : Int
  ny : Int
  A : Option Addr
  cap : Nat
  l : List Cnt
def MfIn (w : World) (f : Mfr) : Prop := Cnts w f.A f.l ∧ (f.A = none → f.cap = 0) ∧ f.l.length ≤ f.cap ∧ f.cap ≤ maxLen ∧ (-9223372036854775808 ≤ f.nx ∧ f.nx ≤ 9223372036854775807) ∧ -9223372036854775808 ≤ f.ny ∧ f.ny ≤ 9223372036854775807

section
open Go.ChangeShapes Go.WideShapes Go.Deep
variable {H : Type} {enc : TypeId × Value → H} {w : World} {base B : Nat} {spare : Nat → Bool} {held : Bool}
theorem rd_intw {P : Program} {t : TypeId} {k : IntKind} {fuel : Nat} {cs : List Value} {x : DataW H × List MemPlace} (ht : P.underlying t = some (.int k)) (h : DataW.trod enc P w base spare held fuel t cs = some x) : ∃ n, cs = [.int k n] ∧ (Lit.int k n).wf = true := by
  obtain ⟨n, e, _, hw⟩ := DataW.trod_int ht h; exact ⟨n, e, hw⟩
theorem wf_one {n : Int} (h : (Lit.int .i64 n).wf = true) : -9223372036854775808 ≤ n ∧ n ≤ 9223372036854775807 := wf_i64 (ns := [n]) (fun x hx => by rw [List.mem_singleton] at hx; subst hx; exact h) n (List.mem_singleton.2 rfl)
theorem rd_Cnt {fuel : Nat} {cs : List Value} {x : DataW H × List MemPlace} (h : DataW.trod enc Try.prog w base spare held fuel 31 cs = some x) : ∃ f : Cnt, cs = cnc f := by
  have hl := (rd_struct Try.underlying31 h).1
  rw [show Try.prog.cellsOf 31 = 6 from by kernel_rfl] at hl
  obtain ⟨c0, r0, rfl, hl_0⟩ := cons_of hl
  obtain ⟨c1, r1, rfl, hl_1⟩ := cons_of hl_0
  obtain ⟨c2, r2, rfl, hl_2⟩ := cons_of hl_1
  obtain ⟨c3, r3, rfl, hl_3⟩ := cons_of hl_2
  obtain ⟨c4, r4, rfl, hl_4⟩ := cons_of hl_3
  obtain ⟨c5, r5, rfl, hl_5⟩ := cons_of hl_4
  obtain rfl := List.eq_nil_of_length_eq_zero hl_5
  obtain ⟨-, fs1⟩ := rd_struct Try.underlying31 h
  obtain ⟨_, _, g2_⟩ := fs1 0 _ rfl
  have g2 : DataW.trod enc Try.prog w base spare held _ 23 (List.take (Try.prog.cellsOf 23) (List.drop 0 [c0, c1, c2, c3, c4, c5])) = _ := g2_
  clear g2_
  rw [show Try.prog.cellsOf 23 = 2 from by kernel_rfl] at g2
  replace g2 := (show DataW.trod enc Try.prog w base spare held _ 23 [c0, c1] = _ from g2)
  obtain ⟨-, fs3⟩ := rd_struct Try.underlying23 g2
  obtain ⟨_, _, g4_⟩ := fs3 0 _ rfl
  have g4 : DataW.trod enc Try.prog w base spare held _ 3 (List.take (Try.prog.cellsOf 3) (List.drop 0 [c0, c1])) = _ := g4_
  clear g4_
  rw [show Try.prog.cellsOf 3 = 1 from by kernel_rfl] at g4
  replace g4 := (show DataW.trod enc Try.prog w base spare held _ 3 [c0] = _ from g4)
  obtain ⟨a5, ea5⟩ := rd_int Try.underlying3 g4
  obtain rfl : c0 = _ := by simpa using ea5
  obtain ⟨_, _, g6_⟩ := fs3 1 _ rfl
  have g6 : DataW.trod enc Try.prog w base spare held _ 3 (List.take (Try.prog.cellsOf 3) (List.drop 1 [Value.int .i64 a5, c1])) = _ := g6_
  clear g6_
  rw [show Try.prog.cellsOf 3 = 1 from by kernel_rfl] at g6
  replace g6 := (show DataW.trod enc Try.prog w base spare held _ 3 [c1] = _ from g6)
  obtain ⟨a7, ea7⟩ := rd_int Try.underlying3 g6
  obtain rfl : c1 = _ := by simpa using ea7
  obtain ⟨_, _, g8_⟩ := fs1 1 _ rfl
  have g8 : DataW.trod enc Try.prog w base spare held _ 3 (List.take (Try.prog.cellsOf 3) (List.drop 2 [Value.int .i64 a5, Value.int .i64 a7, c2, c3, c4, c5])) = _ := g8_
  clear g8_
  rw [show Try.prog.cellsOf 3 = 1 from by kernel_rfl] at g8
  replace g8 := (show DataW.trod enc Try.prog w base spare held _ 3 [c2] = _ from g8)
  obtain ⟨a9, ea9⟩ := rd_int Try.underlying3 g8
  obtain rfl : c2 = _ := by simpa using ea9
  obtain ⟨_, _, g10_⟩ := fs1 2 _ rfl
  have g10 : DataW.trod enc Try.prog w base spare held _ 3 (List.take (Try.prog.cellsOf 3) (List.drop 3 [Value.int .i64 a5, Value.int .i64 a7, Value.int .i64 a9, c3, c4, c5])) = _ := g10_
  clear g10_
  rw [show Try.prog.cellsOf 3 = 1 from by kernel_rfl] at g10
  replace g10 := (show DataW.trod enc Try.prog w base spare held _ 3 [c3] = _ from g10)
  obtain ⟨a11, ea11⟩ := rd_int Try.underlying3 g10
  obtain rfl : c3 = _ := by simpa using ea11
  obtain ⟨_, _, g12_⟩ := fs1 3 _ rfl
  have g12 : DataW.trod enc Try.prog w base spare held _ 3 (List.take (Try.prog.cellsOf 3) (List.drop 4 [Value.int .i64 a5, Value.int .i64 a7, Value.int .i64 a9, Value.int .i64 a11, c4, c5])) = _ := g12_
  clear g12_
  rw [show Try.prog.cellsOf 3 = 1 from by kernel_rfl] at g12
  replace g12 := (show DataW.trod enc Try.prog w base spare held _ 3 [c4] = _ from g12)
  obtain ⟨a13, ea13⟩ := rd_int Try.underlying3 g12
  obtain rfl : c4 = _ := by simpa using ea13
  obtain ⟨_, _, g14_⟩ := fs1 4 _ rfl
  have g14 : DataW.trod enc Try.prog w base spare held _ 3 (List.take (Try.prog.cellsOf 3) (List.drop 5 [Value.int .i64 a5, Value.int .i64 a7, Value.int .i64 a9, Value.int .i64 a11, Value.int .i64 a13, c5])) = _ := g14_
  clear g14_
  rw [show Try.prog.cellsOf 3 = 1 from by kernel_rfl] at g14
  replace g14 := (show DataW.trod enc Try.prog w base spare held _ 3 [c5] = _ from g14)
  obtain ⟨a15, ea15⟩ := rd_int Try.underlying3 g14
  obtain rfl : c5 = _ := by simpa using ea15
  exact ⟨⟨a5, a7, a9, a11, a13, a15⟩, rfl⟩
theorem rd_Mfr {fuel : Nat} {cs : List Value} {x : DataW H × List MemPlace} (h : DataW.trod enc Try.prog w base spare held fuel 26 cs = some x) : ∃ f : Mfr, cs = [.int .i64 f.nx, .int .i64 f.ny, .slice f.A f.l.length f.cap] ∧ MfIn w f := by
  have hl := (rd_struct Try.underlying26 h).1
  rw [show Try.prog.cellsOf 26 = 3 from by kernel_rfl] at hl
  obtain ⟨c0, r0, rfl, hl_0⟩ := cons_of hl
  obtain ⟨c1, r1, rfl, hl_1⟩ := cons_of hl_0
  obtain ⟨c2, r2, rfl, hl_2⟩ := cons_of hl_1
  obtain rfl := List.eq_nil_of_length_eq_zero hl_2
  obtain ⟨-, fs1⟩ := rd_struct Try.underlying26 h
  obtain ⟨_, _, g2_⟩ := fs1 0 _ rfl
  have g2 : DataW.trod enc Try.prog w base spare held _ 23 (List.take (Try.prog.cellsOf 23) (List.drop 0 [c0, c1, c2])) = _ := g2_
  clear g2_
  rw [show Try.prog.cellsOf 23 = 2 from by kernel_rfl] at g2
  replace g2 := (show DataW.trod enc Try.prog w base spare held _ 23 [c0, c1] = _ from g2)
  obtain ⟨-, fs3⟩ := rd_struct Try.underlying23 g2
  obtain ⟨_, _, g4_⟩ := fs3 0 _ rfl
  have g4 : DataW.trod enc Try.prog w base spare held _ 3 (List.take (Try.prog.cellsOf 3) (List.drop 0 [c0, c1])) = _ := g4_
  clear g4_
  rw [show Try.prog.cellsOf 3 = 1 from by kernel_rfl] at g4
  replace g4 := (show DataW.trod enc Try.prog w base spare held _ 3 [c0] = _ from g4)
  obtain ⟨a5, ea5, wa5⟩ := rd_intw Try.underlying3 g4
  obtain rfl : c0 = _ := by simpa using ea5
  obtain ⟨_, _, g6_⟩ := fs3 1 _ rfl
  have g6 : DataW.trod enc Try.prog w base spare held _ 3 (List.take (Try.prog.cellsOf 3) (List.drop 1 [Value.int .i64 a5, c1])) = _ := g6_
  clear g6_
  rw [show Try.prog.cellsOf 3 = 1 from by kernel_rfl] at g6
  replace g6 := (show DataW.trod enc Try.prog w base spare held _ 3 [c1] = _ from g6)
  obtain ⟨a7, ea7, wa7⟩ := rd_intw Try.underlying3 g6
  obtain rfl : c1 = _ := by simpa using ea7
  obtain ⟨_, _, g8_⟩ := fs1 1 _ rfl
  have g8 : DataW.trod enc Try.prog w base spare held _ 24 (List.take (Try.prog.cellsOf 24) (List.drop 2 [Value.int .i64 a5, Value.int .i64 a7, c2])) = _ := g8_
  clear g8_
  rw [show Try.prog.cellsOf 24 = 1 from by kernel_rfl] at g8
  replace g8 := (show DataW.trod enc Try.prog w base spare held _ 24 [c2] = _ from g8)
  obtain ⟨A9, cap10, l11, e11, hl11, hc11, hp11, hn11⟩ := rd_els 6 (cntQ) Try.underlying24 (by kernel_rfl) (by decide) (fun m ci y hy => rd_Cnt hy) g8
  obtain rfl : c2 = _ := by simpa using e11
  exact ⟨⟨a5, a7, A9, cap10, l11⟩, rfl, hp11, hn11, hl11, hc11, wf_one wa5, wf_one wa7⟩
end

end Go.Proofs.Ytiecpebckmihgaa
