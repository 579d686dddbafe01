/- Mass data and fixtures among a statement's arguments: what their cells say. -/
import Derived.Test.YtdmcdicphohlfaaGreatDat
import Derived.Test.YtdmcdicphohlfaaGreatCoA
import Derived.Test.YtdmcdicphohlfaaGreatChecked
set_option linter.unusedVariables false
namespace Go.Proofs.YtdmcdicphohlfaaGreat
open Go.RowKit Fx

section
open Go.ChangeShapes Go.WideShapes Go.Deep
variable {H : Type} {enc : TypeId × Value → H} {w : World} {base B : Nat} {spare : Nat → Bool} {held : Bool}

theorem rd_Fxr {fuel : Nat} {cs : List Value} {x : DataW H × List MemPlace} (h : DataW.trod enc Tryz.prog w base spare held fuel 35 cs = some x) : ∃ f : Fxr, fxQ w cs f := by
  have hl := (rd_struct Tryz.underlying35 h).1
  rw [show Tryz.prog.cellsOf 35 = 10 from by kernel_rfl] at hl
  obtain ⟨c0, r0, rfl, hl_0⟩ := cons_of hl
  obtain ⟨c1, r1, rfl, hl_1⟩ := cons_of hl_0
  obtain ⟨c2, r2, rfl, hl_2⟩ := cons_of hl_1
  obtain ⟨c3, r3, rfl, hl_3⟩ := cons_of hl_2
  obtain ⟨c4, r4, rfl, hl_4⟩ := cons_of hl_3
  obtain ⟨c5, r5, rfl, hl_5⟩ := cons_of hl_4
  obtain ⟨c6, r6, rfl, hl_6⟩ := cons_of hl_5
  obtain ⟨c7, r7, rfl, hl_7⟩ := cons_of hl_6
  obtain ⟨c8, r8, rfl, hl_8⟩ := cons_of hl_7
  obtain ⟨c9, r9, rfl, hl_9⟩ := cons_of hl_8
  obtain rfl := List.eq_nil_of_length_eq_zero hl_9
  obtain ⟨-, fs1⟩ := rd_struct Tryz.underlying35 h
  obtain ⟨_, _, g2_⟩ := fs1 0 _ rfl
  have g2 : DataW.trod enc Tryz.prog w base spare held _ 33 (List.take (Tryz.prog.cellsOf 33) (List.drop 0 [c0, c1, c2, c3, c4, c5, c6, c7, c8, c9])) = _ := g2_
  clear g2_
  rw [show Tryz.prog.cellsOf 33 = 3 from by kernel_rfl] at g2
  replace g2 := (show DataW.trod enc Tryz.prog w base spare held _ 33 [c0, c1, c2] = _ from g2)
  obtain ⟨-, fs3⟩ := rd_struct Tryz.underlying33 g2
  obtain ⟨_, _, g4_⟩ := fs3 0 _ rfl
  have g4 : DataW.trod enc Tryz.prog w base spare held _ 30 (List.take (Tryz.prog.cellsOf 30) (List.drop 0 [c0, c1, c2])) = _ := g4_
  clear g4_
  rw [show Tryz.prog.cellsOf 30 = 1 from by kernel_rfl] at g4
  replace g4 := (show DataW.trod enc Tryz.prog w base spare held _ 30 [c0] = _ from g4)
  obtain ⟨a5, ea5⟩ := rd_int Tryz.underlying30 g4
  obtain rfl : c0 = _ := by simpa using ea5
  obtain ⟨_, _, g6_⟩ := fs3 1 _ rfl
  have g6 : DataW.trod enc Tryz.prog w base spare held _ 3 (List.take (Tryz.prog.cellsOf 3) (List.drop 1 [Value.int .i64 a5, c1, c2])) = _ := g6_
  clear g6_
  rw [show Tryz.prog.cellsOf 3 = 1 from by kernel_rfl] at g6
  replace g6 := (show DataW.trod enc Tryz.prog w base spare held _ 3 [c1] = _ from g6)
  obtain ⟨a7, ea7⟩ := rd_int Tryz.underlying3 g6
  obtain rfl : c1 = _ := by simpa using ea7
  obtain ⟨_, _, g8_⟩ := fs3 2 _ rfl
  have g8 : DataW.trod enc Tryz.prog w base spare held _ 31 (List.take (Tryz.prog.cellsOf 31) (List.drop 2 [Value.int .i64 a5, Value.int .i64 a7, c2])) = _ := g8_
  clear g8_
  rw [show Tryz.prog.cellsOf 31 = 1 from by kernel_rfl] at g8
  replace g8 := (show DataW.trod enc Tryz.prog w base spare held _ 31 [c2] = _ from g8)
  obtain ⟨A9, cap10, l11, e11, hl11, hc11, hp11, hn11⟩ := rd_pts Tryz.underlying31 Tryz.underlying24 (by kernel_rfl) rfl rfl (by kernel_rfl) (by kernel_rfl) Tryz.underlying3 Tryz.underlying3 g8
  obtain rfl : c2 = _ := by simpa using e11
  obtain ⟨_, _, g12_⟩ := fs1 1 _ rfl
  have g12 : DataW.trod enc Tryz.prog w base spare held _ 3 (List.take (Tryz.prog.cellsOf 3) (List.drop 3 [Value.int .i64 a5, Value.int .i64 a7, Value.slice A9 l11.length cap10, c3, c4, c5, c6, c7, c8, c9])) = _ := g12_
  clear g12_
  rw [show Tryz.prog.cellsOf 3 = 1 from by kernel_rfl] at g12
  replace g12 := (show DataW.trod enc Tryz.prog w base spare held _ 3 [c3] = _ from g12)
  obtain ⟨a13, ea13⟩ := rd_int Tryz.underlying3 g12
  obtain rfl : c3 = _ := by simpa using ea13
  obtain ⟨_, _, g14_⟩ := fs1 2 _ rfl
  have g14 : DataW.trod enc Tryz.prog w base spare held _ 3 (List.take (Tryz.prog.cellsOf 3) (List.drop 4 [Value.int .i64 a5, Value.int .i64 a7, Value.slice A9 l11.length cap10, Value.int .i64 a13, c4, c5, c6, c7, c8, c9])) = _ := g14_
  clear g14_
  rw [show Tryz.prog.cellsOf 3 = 1 from by kernel_rfl] at g14
  replace g14 := (show DataW.trod enc Tryz.prog w base spare held _ 3 [c4] = _ from g14)
  obtain ⟨a15, ea15⟩ := rd_int Tryz.underlying3 g14
  obtain rfl : c4 = _ := by simpa using ea15
  obtain ⟨_, _, g16_⟩ := fs1 3 _ rfl
  have g16 : DataW.trod enc Tryz.prog w base spare held _ 3 (List.take (Tryz.prog.cellsOf 3) (List.drop 5 [Value.int .i64 a5, Value.int .i64 a7, Value.slice A9 l11.length cap10, Value.int .i64 a13, Value.int .i64 a15, c5, c6, c7, c8, c9])) = _ := g16_
  clear g16_
  rw [show Tryz.prog.cellsOf 3 = 1 from by kernel_rfl] at g16
  replace g16 := (show DataW.trod enc Tryz.prog w base spare held _ 3 [c5] = _ from g16)
  obtain ⟨a17, ea17⟩ := rd_int Tryz.underlying3 g16
  obtain rfl : c5 = _ := by simpa using ea17
  obtain ⟨_, _, g18_⟩ := fs1 4 _ rfl
  have g18 : DataW.trod enc Tryz.prog w base spare held _ 4 (List.take (Tryz.prog.cellsOf 4) (List.drop 6 [Value.int .i64 a5, Value.int .i64 a7, Value.slice A9 l11.length cap10, Value.int .i64 a13, Value.int .i64 a15, Value.int .i64 a17, c6, c7, c8, c9])) = _ := g18_
  clear g18_
  rw [show Tryz.prog.cellsOf 4 = 1 from by kernel_rfl] at g18
  replace g18 := (show DataW.trod enc Tryz.prog w base spare held _ 4 [c6] = _ from g18)
  obtain ⟨a19, ea19⟩ := rd_bool Tryz.underlying4 g18
  obtain rfl : c6 = _ := by simpa using ea19
  obtain ⟨_, _, g20_⟩ := fs1 5 _ rfl
  have g20 : DataW.trod enc Tryz.prog w base spare held _ 3 (List.take (Tryz.prog.cellsOf 3) (List.drop 7 [Value.int .i64 a5, Value.int .i64 a7, Value.slice A9 l11.length cap10, Value.int .i64 a13, Value.int .i64 a15, Value.int .i64 a17, Value.bool a19, c7, c8, c9])) = _ := g20_
  clear g20_
  rw [show Tryz.prog.cellsOf 3 = 1 from by kernel_rfl] at g20
  replace g20 := (show DataW.trod enc Tryz.prog w base spare held _ 3 [c7] = _ from g20)
  obtain ⟨a21, ea21⟩ := rd_int Tryz.underlying3 g20
  obtain rfl : c7 = _ := by simpa using ea21
  obtain ⟨_, _, g22_⟩ := fs1 6 _ rfl
  have g22 : DataW.trod enc Tryz.prog w base spare held _ 3 (List.take (Tryz.prog.cellsOf 3) (List.drop 8 [Value.int .i64 a5, Value.int .i64 a7, Value.slice A9 l11.length cap10, Value.int .i64 a13, Value.int .i64 a15, Value.int .i64 a17, Value.bool a19, Value.int .i64 a21, c8, c9])) = _ := g22_
  clear g22_
  rw [show Tryz.prog.cellsOf 3 = 1 from by kernel_rfl] at g22
  replace g22 := (show DataW.trod enc Tryz.prog w base spare held _ 3 [c8] = _ from g22)
  obtain ⟨a23, ea23⟩ := rd_int Tryz.underlying3 g22
  obtain rfl : c8 = _ := by simpa using ea23
  obtain ⟨_, _, g24_⟩ := fs1 7 _ rfl
  have g24 : DataW.trod enc Tryz.prog w base spare held _ 3 (List.take (Tryz.prog.cellsOf 3) (List.drop 9 [Value.int .i64 a5, Value.int .i64 a7, Value.slice A9 l11.length cap10, Value.int .i64 a13, Value.int .i64 a15, Value.int .i64 a17, Value.bool a19, Value.int .i64 a21, Value.int .i64 a23, c9])) = _ := g24_
  clear g24_
  rw [show Tryz.prog.cellsOf 3 = 1 from by kernel_rfl] at g24
  replace g24 := (show DataW.trod enc Tryz.prog w base spare held _ 3 [c9] = _ from g24)
  obtain ⟨a25, ea25⟩ := rd_int Tryz.underlying3 g24
  obtain rfl : c9 = _ := by simpa using ea25
  exact ⟨⟨a5, a7, A9, cap10, l11, a13, a15, a17, a19, a21, a23, a25⟩, ⟨rfl, hp11, hn11, hl11, hc11⟩⟩

end

end Go.Proofs.YtdmcdicphohlfaaGreat
