/- Laws of chapter 19: a motion as an argument, few, distanceAt, the example. -/
import Derived.Test.YtipcbcngedpmkaaGreatTb
import Derived.Test.YtipcbcngedpmkaaGreatDat
import Derived.Test.YtipcbcngedpmkaaGreatChecked
import Derived.Deep.MidRow
set_option linter.unusedVariables false
namespace Go.Proofs.YtipcbcngedpmkaaGreat
open Go.RowKit Fx

/-- What lies in a block, as a whole. -/
theorem rng_blk {w : World} {b : Nat} {l : List Value} {t : TypeId} (h : blk w b l.toArray t) : w.rangeAt b 0 l := fun j v hv => by rw [Nat.zero_add, blk_cell h]; simpa using hv

/-- A motion among a statement's arguments. -/
structure Mot where
  K : Int
  R : Int
  A : Option Addr
  ca : Nat
  ps : List (Int × Int)
  K2 : Int
  R2 : Int
  B : Option Addr
  cb : Nat
  qs : List (Int × Int)
  px : Int
  py : Int
  pa : Int
  ux : Int
  uy : Int
  ua : Int
  qx : Int
  qy : Int
  qa : Int
  vx : Int
  vy : Int
  va : Int
def MotIn (w : World) (f : Mot) : Prop := Pts w f.A f.ps ∧ (f.A = none → f.ca = 0) ∧ f.ps.length ≤ f.ca ∧ f.ca ≤ maxLen ∧ Pts w f.B f.qs ∧ (f.B = none → f.cb = 0) ∧ f.qs.length ≤ f.cb ∧ f.cb ≤ maxLen

section
open Go.ChangeShapes Go.WideShapes Go.Deep
variable {H : Type} {enc : TypeId × Value → H} {w : World} {base B : Nat} {spare : Nat → Bool} {held : Bool}
theorem rd_Mot {fuel : Nat} {cs : List Value} {x : DataW H × List MemPlace} (h : DataW.trod enc Tryz.prog w base spare held fuel 31 cs = some x) : ∃ f : Mot, cs = [.int .i64 f.K, .int .i64 f.R, .slice f.A f.ps.length f.ca, .int .i64 f.K2, .int .i64 f.R2, .slice f.B f.qs.length f.cb, .int .i64 f.px, .int .i64 f.py, .int .i64 f.pa, .int .i64 f.ux, .int .i64 f.uy, .int .i64 f.ua, .int .i64 f.qx, .int .i64 f.qy, .int .i64 f.qa, .int .i64 f.vx, .int .i64 f.vy, .int .i64 f.va] ∧ MotIn w f := by
  have hl := (rd_struct Tryz.underlying31 h).1
  rw [show Tryz.prog.cellsOf 31 = 18 from by kernel_rfl] at hl
  obtain ⟨c0, r0, rfl, hl_0⟩ := cons_of hl
  obtain ⟨c1, r1, rfl, hl_1⟩ := cons_of hl_0
  obtain ⟨c2, r2, rfl, hl_2⟩ := cons_of hl_1
  obtain ⟨c3, r3, rfl, hl_3⟩ := cons_of hl_2
  obtain ⟨c4, r4, rfl, hl_4⟩ := cons_of hl_3
  obtain ⟨c5, r5, rfl, hl_5⟩ := cons_of hl_4
  obtain ⟨c6, r6, rfl, hl_6⟩ := cons_of hl_5
  obtain ⟨c7, r7, rfl, hl_7⟩ := cons_of hl_6
  obtain ⟨c8, r8, rfl, hl_8⟩ := cons_of hl_7
  obtain ⟨c9, r9, rfl, hl_9⟩ := cons_of hl_8
  obtain ⟨c10, r10, rfl, hl_10⟩ := cons_of hl_9
  obtain ⟨c11, r11, rfl, hl_11⟩ := cons_of hl_10
  obtain ⟨c12, r12, rfl, hl_12⟩ := cons_of hl_11
  obtain ⟨c13, r13, rfl, hl_13⟩ := cons_of hl_12
  obtain ⟨c14, r14, rfl, hl_14⟩ := cons_of hl_13
  obtain ⟨c15, r15, rfl, hl_15⟩ := cons_of hl_14
  obtain ⟨c16, r16, rfl, hl_16⟩ := cons_of hl_15
  obtain ⟨c17, r17, rfl, hl_17⟩ := cons_of hl_16
  obtain rfl := List.eq_nil_of_length_eq_zero hl_17
  obtain ⟨-, fs1⟩ := rd_struct Tryz.underlying31 h
  obtain ⟨_, _, g2_⟩ := fs1 0 _ rfl
  have g2 : DataW.trod enc Tryz.prog w base spare held _ 25 (List.take (Tryz.prog.cellsOf 25) (List.drop 0 [c0, c1, c2, c3, c4, c5, c6, c7, c8, c9, c10, c11, c12, c13, c14, c15, c16, c17])) = _ := g2_
  clear g2_
  rw [show Tryz.prog.cellsOf 25 = 3 from by kernel_rfl] at g2
  replace g2 := (show DataW.trod enc Tryz.prog w base spare held _ 25 [c0, c1, c2] = _ from g2)
  obtain ⟨-, fs3⟩ := rd_struct Tryz.underlying25 g2
  obtain ⟨_, _, g4_⟩ := fs3 0 _ rfl
  have g4 : DataW.trod enc Tryz.prog w base spare held _ 22 (List.take (Tryz.prog.cellsOf 22) (List.drop 0 [c0, c1, c2])) = _ := g4_
  clear g4_
  rw [show Tryz.prog.cellsOf 22 = 1 from by kernel_rfl] at g4
  replace g4 := (show DataW.trod enc Tryz.prog w base spare held _ 22 [c0] = _ from g4)
  obtain ⟨a5, ea5⟩ := rd_int Tryz.underlying22 g4
  obtain rfl : c0 = _ := by simpa using ea5
  obtain ⟨_, _, g6_⟩ := fs3 1 _ rfl
  have g6 : DataW.trod enc Tryz.prog w base spare held _ 3 (List.take (Tryz.prog.cellsOf 3) (List.drop 1 [Value.int .i64 a5, c1, c2])) = _ := g6_
  clear g6_
  rw [show Tryz.prog.cellsOf 3 = 1 from by kernel_rfl] at g6
  replace g6 := (show DataW.trod enc Tryz.prog w base spare held _ 3 [c1] = _ from g6)
  obtain ⟨a7, ea7⟩ := rd_int Tryz.underlying3 g6
  obtain rfl : c1 = _ := by simpa using ea7
  obtain ⟨_, _, g8_⟩ := fs3 2 _ rfl
  have g8 : DataW.trod enc Tryz.prog w base spare held _ 23 (List.take (Tryz.prog.cellsOf 23) (List.drop 2 [Value.int .i64 a5, Value.int .i64 a7, c2])) = _ := g8_
  clear g8_
  rw [show Tryz.prog.cellsOf 23 = 1 from by kernel_rfl] at g8
  replace g8 := (show DataW.trod enc Tryz.prog w base spare held _ 23 [c2] = _ from g8)
  obtain ⟨A9, cap10, l11, e11, hl11, hc11, hp11, hn11⟩ := rd_pts Tryz.underlying23 Tryz.underlying27 (by kernel_rfl) rfl rfl (by kernel_rfl) (by kernel_rfl) Tryz.underlying3 Tryz.underlying3 g8
  obtain rfl : c2 = _ := by simpa using e11
  obtain ⟨_, _, g12_⟩ := fs1 1 _ rfl
  have g12 : DataW.trod enc Tryz.prog w base spare held _ 25 (List.take (Tryz.prog.cellsOf 25) (List.drop 3 [Value.int .i64 a5, Value.int .i64 a7, Value.slice A9 l11.length cap10, c3, c4, c5, c6, c7, c8, c9, c10, c11, c12, c13, c14, c15, c16, c17])) = _ := g12_
  clear g12_
  rw [show Tryz.prog.cellsOf 25 = 3 from by kernel_rfl] at g12
  replace g12 := (show DataW.trod enc Tryz.prog w base spare held _ 25 [c3, c4, c5] = _ from g12)
  obtain ⟨-, fs13⟩ := rd_struct Tryz.underlying25 g12
  obtain ⟨_, _, g14_⟩ := fs13 0 _ rfl
  have g14 : DataW.trod enc Tryz.prog w base spare held _ 22 (List.take (Tryz.prog.cellsOf 22) (List.drop 0 [c3, c4, c5])) = _ := g14_
  clear g14_
  rw [show Tryz.prog.cellsOf 22 = 1 from by kernel_rfl] at g14
  replace g14 := (show DataW.trod enc Tryz.prog w base spare held _ 22 [c3] = _ from g14)
  obtain ⟨a15, ea15⟩ := rd_int Tryz.underlying22 g14
  obtain rfl : c3 = _ := by simpa using ea15
  obtain ⟨_, _, g16_⟩ := fs13 1 _ rfl
  have g16 : DataW.trod enc Tryz.prog w base spare held _ 3 (List.take (Tryz.prog.cellsOf 3) (List.drop 1 [Value.int .i64 a15, c4, c5])) = _ := g16_
  clear g16_
  rw [show Tryz.prog.cellsOf 3 = 1 from by kernel_rfl] at g16
  replace g16 := (show DataW.trod enc Tryz.prog w base spare held _ 3 [c4] = _ from g16)
  obtain ⟨a17, ea17⟩ := rd_int Tryz.underlying3 g16
  obtain rfl : c4 = _ := by simpa using ea17
  obtain ⟨_, _, g18_⟩ := fs13 2 _ rfl
  have g18 : DataW.trod enc Tryz.prog w base spare held _ 23 (List.take (Tryz.prog.cellsOf 23) (List.drop 2 [Value.int .i64 a15, Value.int .i64 a17, c5])) = _ := g18_
  clear g18_
  rw [show Tryz.prog.cellsOf 23 = 1 from by kernel_rfl] at g18
  replace g18 := (show DataW.trod enc Tryz.prog w base spare held _ 23 [c5] = _ from g18)
  obtain ⟨A19, cap20, l21, e21, hl21, hc21, hp21, hn21⟩ := rd_pts Tryz.underlying23 Tryz.underlying27 (by kernel_rfl) rfl rfl (by kernel_rfl) (by kernel_rfl) Tryz.underlying3 Tryz.underlying3 g18
  obtain rfl : c5 = _ := by simpa using e21
  obtain ⟨_, _, g22_⟩ := fs1 2 _ rfl
  have g22 : DataW.trod enc Tryz.prog w base spare held _ 29 (List.take (Tryz.prog.cellsOf 29) (List.drop 6 [Value.int .i64 a5, Value.int .i64 a7, Value.slice A9 l11.length cap10, Value.int .i64 a15, Value.int .i64 a17, Value.slice A19 l21.length cap20, c6, c7, c8, c9, c10, c11, c12, c13, c14, c15, c16, c17])) = _ := g22_
  clear g22_
  rw [show Tryz.prog.cellsOf 29 = 3 from by kernel_rfl] at g22
  replace g22 := (show DataW.trod enc Tryz.prog w base spare held _ 29 [c6, c7, c8] = _ from g22)
  obtain ⟨-, fs23⟩ := rd_struct Tryz.underlying29 g22
  obtain ⟨_, _, g24_⟩ := fs23 0 _ rfl
  have g24 : DataW.trod enc Tryz.prog w base spare held _ 27 (List.take (Tryz.prog.cellsOf 27) (List.drop 0 [c6, c7, c8])) = _ := g24_
  clear g24_
  rw [show Tryz.prog.cellsOf 27 = 2 from by kernel_rfl] at g24
  replace g24 := (show DataW.trod enc Tryz.prog w base spare held _ 27 [c6, c7] = _ from g24)
  obtain ⟨-, fs25⟩ := rd_struct Tryz.underlying27 g24
  obtain ⟨_, _, g26_⟩ := fs25 0 _ rfl
  have g26 : DataW.trod enc Tryz.prog w base spare held _ 3 (List.take (Tryz.prog.cellsOf 3) (List.drop 0 [c6, c7])) = _ := g26_
  clear g26_
  rw [show Tryz.prog.cellsOf 3 = 1 from by kernel_rfl] at g26
  replace g26 := (show DataW.trod enc Tryz.prog w base spare held _ 3 [c6] = _ from g26)
  obtain ⟨a27, ea27⟩ := rd_int Tryz.underlying3 g26
  obtain rfl : c6 = _ := by simpa using ea27
  obtain ⟨_, _, g28_⟩ := fs25 1 _ rfl
  have g28 : DataW.trod enc Tryz.prog w base spare held _ 3 (List.take (Tryz.prog.cellsOf 3) (List.drop 1 [Value.int .i64 a27, c7])) = _ := g28_
  clear g28_
  rw [show Tryz.prog.cellsOf 3 = 1 from by kernel_rfl] at g28
  replace g28 := (show DataW.trod enc Tryz.prog w base spare held _ 3 [c7] = _ from g28)
  obtain ⟨a29, ea29⟩ := rd_int Tryz.underlying3 g28
  obtain rfl : c7 = _ := by simpa using ea29
  obtain ⟨_, _, g30_⟩ := fs23 1 _ rfl
  have g30 : DataW.trod enc Tryz.prog w base spare held _ 3 (List.take (Tryz.prog.cellsOf 3) (List.drop 2 [Value.int .i64 a27, Value.int .i64 a29, c8])) = _ := g30_
  clear g30_
  rw [show Tryz.prog.cellsOf 3 = 1 from by kernel_rfl] at g30
  replace g30 := (show DataW.trod enc Tryz.prog w base spare held _ 3 [c8] = _ from g30)
  obtain ⟨a31, ea31⟩ := rd_int Tryz.underlying3 g30
  obtain rfl : c8 = _ := by simpa using ea31
  obtain ⟨_, _, g32_⟩ := fs1 3 _ rfl
  have g32 : DataW.trod enc Tryz.prog w base spare held _ 29 (List.take (Tryz.prog.cellsOf 29) (List.drop 9 [Value.int .i64 a5, Value.int .i64 a7, Value.slice A9 l11.length cap10, Value.int .i64 a15, Value.int .i64 a17, Value.slice A19 l21.length cap20, Value.int .i64 a27, Value.int .i64 a29, Value.int .i64 a31, c9, c10, c11, c12, c13, c14, c15, c16, c17])) = _ := g32_
  clear g32_
  rw [show Tryz.prog.cellsOf 29 = 3 from by kernel_rfl] at g32
  replace g32 := (show DataW.trod enc Tryz.prog w base spare held _ 29 [c9, c10, c11] = _ from g32)
  obtain ⟨-, fs33⟩ := rd_struct Tryz.underlying29 g32
  obtain ⟨_, _, g34_⟩ := fs33 0 _ rfl
  have g34 : DataW.trod enc Tryz.prog w base spare held _ 27 (List.take (Tryz.prog.cellsOf 27) (List.drop 0 [c9, c10, c11])) = _ := g34_
  clear g34_
  rw [show Tryz.prog.cellsOf 27 = 2 from by kernel_rfl] at g34
  replace g34 := (show DataW.trod enc Tryz.prog w base spare held _ 27 [c9, c10] = _ from g34)
  obtain ⟨-, fs35⟩ := rd_struct Tryz.underlying27 g34
  obtain ⟨_, _, g36_⟩ := fs35 0 _ rfl
  have g36 : DataW.trod enc Tryz.prog w base spare held _ 3 (List.take (Tryz.prog.cellsOf 3) (List.drop 0 [c9, c10])) = _ := g36_
  clear g36_
  rw [show Tryz.prog.cellsOf 3 = 1 from by kernel_rfl] at g36
  replace g36 := (show DataW.trod enc Tryz.prog w base spare held _ 3 [c9] = _ from g36)
  obtain ⟨a37, ea37⟩ := rd_int Tryz.underlying3 g36
  obtain rfl : c9 = _ := by simpa using ea37
  obtain ⟨_, _, g38_⟩ := fs35 1 _ rfl
  have g38 : DataW.trod enc Tryz.prog w base spare held _ 3 (List.take (Tryz.prog.cellsOf 3) (List.drop 1 [Value.int .i64 a37, c10])) = _ := g38_
  clear g38_
  rw [show Tryz.prog.cellsOf 3 = 1 from by kernel_rfl] at g38
  replace g38 := (show DataW.trod enc Tryz.prog w base spare held _ 3 [c10] = _ from g38)
  obtain ⟨a39, ea39⟩ := rd_int Tryz.underlying3 g38
  obtain rfl : c10 = _ := by simpa using ea39
  obtain ⟨_, _, g40_⟩ := fs33 1 _ rfl
  have g40 : DataW.trod enc Tryz.prog w base spare held _ 3 (List.take (Tryz.prog.cellsOf 3) (List.drop 2 [Value.int .i64 a37, Value.int .i64 a39, c11])) = _ := g40_
  clear g40_
  rw [show Tryz.prog.cellsOf 3 = 1 from by kernel_rfl] at g40
  replace g40 := (show DataW.trod enc Tryz.prog w base spare held _ 3 [c11] = _ from g40)
  obtain ⟨a41, ea41⟩ := rd_int Tryz.underlying3 g40
  obtain rfl : c11 = _ := by simpa using ea41
  obtain ⟨_, _, g42_⟩ := fs1 4 _ rfl
  have g42 : DataW.trod enc Tryz.prog w base spare held _ 29 (List.take (Tryz.prog.cellsOf 29) (List.drop 12 [Value.int .i64 a5, Value.int .i64 a7, Value.slice A9 l11.length cap10, Value.int .i64 a15, Value.int .i64 a17, Value.slice A19 l21.length cap20, Value.int .i64 a27, Value.int .i64 a29, Value.int .i64 a31, Value.int .i64 a37, Value.int .i64 a39, Value.int .i64 a41, c12, c13, c14, c15, c16, c17])) = _ := g42_
  clear g42_
  rw [show Tryz.prog.cellsOf 29 = 3 from by kernel_rfl] at g42
  replace g42 := (show DataW.trod enc Tryz.prog w base spare held _ 29 [c12, c13, c14] = _ from g42)
  obtain ⟨-, fs43⟩ := rd_struct Tryz.underlying29 g42
  obtain ⟨_, _, g44_⟩ := fs43 0 _ rfl
  have g44 : DataW.trod enc Tryz.prog w base spare held _ 27 (List.take (Tryz.prog.cellsOf 27) (List.drop 0 [c12, c13, c14])) = _ := g44_
  clear g44_
  rw [show Tryz.prog.cellsOf 27 = 2 from by kernel_rfl] at g44
  replace g44 := (show DataW.trod enc Tryz.prog w base spare held _ 27 [c12, c13] = _ from g44)
  obtain ⟨-, fs45⟩ := rd_struct Tryz.underlying27 g44
  obtain ⟨_, _, g46_⟩ := fs45 0 _ rfl
  have g46 : DataW.trod enc Tryz.prog w base spare held _ 3 (List.take (Tryz.prog.cellsOf 3) (List.drop 0 [c12, c13])) = _ := g46_
  clear g46_
  rw [show Tryz.prog.cellsOf 3 = 1 from by kernel_rfl] at g46
  replace g46 := (show DataW.trod enc Tryz.prog w base spare held _ 3 [c12] = _ from g46)
  obtain ⟨a47, ea47⟩ := rd_int Tryz.underlying3 g46
  obtain rfl : c12 = _ := by simpa using ea47
  obtain ⟨_, _, g48_⟩ := fs45 1 _ rfl
  have g48 : DataW.trod enc Tryz.prog w base spare held _ 3 (List.take (Tryz.prog.cellsOf 3) (List.drop 1 [Value.int .i64 a47, c13])) = _ := g48_
  clear g48_
  rw [show Tryz.prog.cellsOf 3 = 1 from by kernel_rfl] at g48
  replace g48 := (show DataW.trod enc Tryz.prog w base spare held _ 3 [c13] = _ from g48)
  obtain ⟨a49, ea49⟩ := rd_int Tryz.underlying3 g48
  obtain rfl : c13 = _ := by simpa using ea49
  obtain ⟨_, _, g50_⟩ := fs43 1 _ rfl
  have g50 : DataW.trod enc Tryz.prog w base spare held _ 3 (List.take (Tryz.prog.cellsOf 3) (List.drop 2 [Value.int .i64 a47, Value.int .i64 a49, c14])) = _ := g50_
  clear g50_
  rw [show Tryz.prog.cellsOf 3 = 1 from by kernel_rfl] at g50
  replace g50 := (show DataW.trod enc Tryz.prog w base spare held _ 3 [c14] = _ from g50)
  obtain ⟨a51, ea51⟩ := rd_int Tryz.underlying3 g50
  obtain rfl : c14 = _ := by simpa using ea51
  obtain ⟨_, _, g52_⟩ := fs1 5 _ rfl
  have g52 : DataW.trod enc Tryz.prog w base spare held _ 29 (List.take (Tryz.prog.cellsOf 29) (List.drop 15 [Value.int .i64 a5, Value.int .i64 a7, Value.slice A9 l11.length cap10, Value.int .i64 a15, Value.int .i64 a17, Value.slice A19 l21.length cap20, Value.int .i64 a27, Value.int .i64 a29, Value.int .i64 a31, Value.int .i64 a37, Value.int .i64 a39, Value.int .i64 a41, Value.int .i64 a47, Value.int .i64 a49, Value.int .i64 a51, c15, c16, c17])) = _ := g52_
  clear g52_
  rw [show Tryz.prog.cellsOf 29 = 3 from by kernel_rfl] at g52
  replace g52 := (show DataW.trod enc Tryz.prog w base spare held _ 29 [c15, c16, c17] = _ from g52)
  obtain ⟨-, fs53⟩ := rd_struct Tryz.underlying29 g52
  obtain ⟨_, _, g54_⟩ := fs53 0 _ rfl
  have g54 : DataW.trod enc Tryz.prog w base spare held _ 27 (List.take (Tryz.prog.cellsOf 27) (List.drop 0 [c15, c16, c17])) = _ := g54_
  clear g54_
  rw [show Tryz.prog.cellsOf 27 = 2 from by kernel_rfl] at g54
  replace g54 := (show DataW.trod enc Tryz.prog w base spare held _ 27 [c15, c16] = _ from g54)
  obtain ⟨-, fs55⟩ := rd_struct Tryz.underlying27 g54
  obtain ⟨_, _, g56_⟩ := fs55 0 _ rfl
  have g56 : DataW.trod enc Tryz.prog w base spare held _ 3 (List.take (Tryz.prog.cellsOf 3) (List.drop 0 [c15, c16])) = _ := g56_
  clear g56_
  rw [show Tryz.prog.cellsOf 3 = 1 from by kernel_rfl] at g56
  replace g56 := (show DataW.trod enc Tryz.prog w base spare held _ 3 [c15] = _ from g56)
  obtain ⟨a57, ea57⟩ := rd_int Tryz.underlying3 g56
  obtain rfl : c15 = _ := by simpa using ea57
  obtain ⟨_, _, g58_⟩ := fs55 1 _ rfl
  have g58 : DataW.trod enc Tryz.prog w base spare held _ 3 (List.take (Tryz.prog.cellsOf 3) (List.drop 1 [Value.int .i64 a57, c16])) = _ := g58_
  clear g58_
  rw [show Tryz.prog.cellsOf 3 = 1 from by kernel_rfl] at g58
  replace g58 := (show DataW.trod enc Tryz.prog w base spare held _ 3 [c16] = _ from g58)
  obtain ⟨a59, ea59⟩ := rd_int Tryz.underlying3 g58
  obtain rfl : c16 = _ := by simpa using ea59
  obtain ⟨_, _, g60_⟩ := fs53 1 _ rfl
  have g60 : DataW.trod enc Tryz.prog w base spare held _ 3 (List.take (Tryz.prog.cellsOf 3) (List.drop 2 [Value.int .i64 a57, Value.int .i64 a59, c17])) = _ := g60_
  clear g60_
  rw [show Tryz.prog.cellsOf 3 = 1 from by kernel_rfl] at g60
  replace g60 := (show DataW.trod enc Tryz.prog w base spare held _ 3 [c17] = _ from g60)
  obtain ⟨a61, ea61⟩ := rd_int Tryz.underlying3 g60
  obtain rfl : c17 = _ := by simpa using ea61
  exact ⟨⟨a5, a7, A9, cap10, l11, a15, a17, A19, cap20, l21, a27, a29, a31, a37, a39, a41, a47, a49, a51, a57, a59, a61⟩, ⟨rfl, hp11, hn11, hl11, hc11, hp21, hn21, hl21, hc21⟩⟩
end

set_option maxRecDepth 100000 in
set_option maxHeartbeats 4000000 in
theorem few19_b (K R : Int) (A : Option Addr) (ca : Nat) (ps : List (Int × Int)) (K2 R2 : Int) (B_ : Option Addr) (cb : Nat) (qs : List (Int × Int)) (px py pa ux uy ua qx qy qa vx vy va : Int) (w : World) : Calls Tryz.prog 4 #[.agg #[.int .i64 K, .int .i64 R, .slice A ps.length ca, .int .i64 K2, .int .i64 R2, .slice B_ qs.length cb, .int .i64 px, .int .i64 py, .int .i64 pa, .int .i64 ux, .int .i64 uy, .int .i64 ua, .int .i64 qx, .int .i64 qy, .int .i64 qa, .int .i64 vx, .int .i64 vy, .int .i64 va]] w fun e w' => e = .returned (.bool (decide (ps.length ≤ 20 ∧ qs.length ≤ 20))) ∧ Below w.heap.size w w' := by
  by_cases c1 : (ps.length : Int) ≤ 20
  · by_cases c2 : (qs.length : Int) ≤ 20
    · rw [show decide (ps.length ≤ 20 ∧ qs.length ≤ 20) = true from decide_eq_true ⟨by omega, by omega⟩]
      go_enter Tryz.func4, Tryz.ntmps4
      go_wp2_with fail
      all_goals (go_ret; refine ⟨?_, bBel⟩; first | rfl | (simp; done) | (simp; omega) | (simp; rw [Bool.eq_iff_iff]; first | (simp; done) | (simp; omega)))
    · rw [show decide (ps.length ≤ 20 ∧ qs.length ≤ 20) = false from decide_eq_false fun h => by omega]
      go_enter Tryz.func4, Tryz.ntmps4
      go_wp2_with fail
      all_goals (go_ret; refine ⟨?_, bBel⟩; first | rfl | (simp; done) | (simp; omega) | (simp; rw [Bool.eq_iff_iff]; first | (simp; done) | (simp; omega)))
  · rw [show decide (ps.length ≤ 20 ∧ qs.length ≤ 20) = false from decide_eq_false fun h => by omega]
    go_enter Tryz.func4, Tryz.ntmps4
    go_wp2_with fail
    all_goals (go_ret; refine ⟨?_, bBel⟩; first | rfl | (simp; done) | (simp; omega) | (simp; rw [Bool.eq_iff_iff]; first | (simp; done) | (simp; omega)))

set_option maxRecDepth 100000 in
set_option maxHeartbeats 16000000 in
theorem example19_b (w : World) : Calls Tryz.prog 5 #[] w fun e w' => e = .returned (.bool true) ∧ Below w.heap.size w w' := by
  have c1 : ∀ A1 w', Pts w' A1 [(0, 0)] → Calls Tryz.prog 6 #[.agg #[.int .i64 1, .int .i64 65536, .slice A1 1 1], .agg #[.int .i64 0, .int .i64 0, .int .i64 0], .agg #[.int .i64 0, .int .i64 0, .int .i64 0], .agg #[.int .i64 1, .int .i64 65536, .slice A1 1 1], .agg #[.int .i64 393216, .int .i64 0, .int .i64 0], .agg #[.int .i64 0, .int .i64 0, .int .i64 0]] w' fun e w'' => e = .returned (.tuple #[.int .i64 43647, .bool true]) ∧ Below w'.heap.size w' w'' := fun A1 w' h => ytoi_b 1 65536 1 65536 A1 A1 1 1 [(0, 0)] [(0, 0)] 0 0 0 0 0 0 393216 0 0 0 0 0 43647 true (by simp) (by simp) (by simp) (by simp) exM_toi w' h h
  have c2 : ∀ A1 w', Pts w' A1 [(0, 0)] → Calls Tryz.prog 6 #[.agg #[.int .i64 1, .int .i64 65536, .slice A1 1 1], .agg #[.int .i64 0, .int .i64 0, .int .i64 0], .agg #[.int .i64 0, .int .i64 0, .int .i64 0], .agg #[.int .i64 1, .int .i64 65536, .slice A1 1 1], .agg #[.int .i64 393216, .int .i64 0, .int .i64 0], .agg #[.int .i64 393216, .int .i64 0, .int .i64 0]] w' fun e w'' => e = .returned (.tuple #[.int .i64 0, .bool false]) ∧ Below w'.heap.size w' w'' := fun A1 w' h => ytoi_b 1 65536 1 65536 A1 A1 1 1 [(0, 0)] [(0, 0)] 0 0 0 0 0 0 393216 0 0 393216 0 0 0 false (by simp) (by simp) (by simp) (by simp) exF_toi w' h h
  have c3 : ∀ A1 w', Pts w' A1 [(0, 0)] → Calls Tryz.prog 8 #[.agg #[.int .i64 1, .int .i64 65536, .slice A1 1 1], .agg #[.int .i64 0, .int .i64 0, .int .i64 0], .agg #[.int .i64 393216, .int .i64 0, .int .i64 0]] w' fun e w'' => e = .returned (.int .i64 393220) ∧ Below w'.heap.size w' w'' := fun A1 w' h => ymb_b 1 65536 A1 1 [(0, 0)] 0 0 0 393216 0 0 393220 (by simp) (by simp) exB_mb w' h
  go_enter Tryz.func5, Tryz.ntmps5
  go_upto_region 3 with fail
  refine wp_named ?_
  intro W hW
  have kP : blk W w.heap.size #[.int .i64 0, .int .i64 0] 27 := by rw [hW]; exact bBkn
  have kS : blk W (w.heap.size + 1) #[.int .i64 1, .int .i64 65536, .slice (some ⟨w.heap.size, 0, none⟩) 1 1] 25 := by rw [hW]; exact bBkn
  have kO : blk W (w.heap.size + 2) #[.int .i64 0, .int .i64 0, .int .i64 0] 29 := by rw [hW]; exact bBkn
  have kF : blk W (w.heap.size + 3) #[.int .i64 393216, .int .i64 0, .int .i64 0] 29 := by rw [hW]; exact bBkn
  have hbW : Below w.heap.size w W := by rw [hW]; exact bBel
  have hPW : Pts W (some ⟨w.heap.size, 0, none⟩) [(0, 0)] := .inr ⟨w.heap.size, 0, rfl, fun i hi => by
    obtain rfl : i = 0 := by simp at hi; omega
    exact ⟨blk_cell kP 0, blk_cell kP 1⟩⟩
  have hszW := hbW.size
  clear hW
  have okS := blk_older kS
  have ckS_0 : _ = some _ := blk_cell kS 0
  have ckS_1 : _ = some _ := blk_cell kS 1
  have ckS_2 : _ = some _ := blk_cell kS 2
  have fkS_0 := blk_free kS 0
  have fkS_1 := blk_free kS 1
  have fkS_2 := blk_free kS 2
  have okO := blk_older kO
  have ckO_0 : _ = some _ := blk_cell kO 0
  have ckO_1 : _ = some _ := blk_cell kO 1
  have ckO_2 : _ = some _ := blk_cell kO 2
  have fkO_0 := blk_free kO 0
  have fkO_1 := blk_free kO 1
  have fkO_2 := blk_free kO 2
  have okF := blk_older kF
  have ckF_0 : _ = some _ := blk_cell kF 0
  have ckF_1 : _ = some _ := blk_cell kF 1
  have ckF_2 : _ = some _ := blk_cell kF 2
  have fkF_0 := blk_free kF 0
  have fkF_1 := blk_free kF 1
  have fkF_2 := blk_free kF 2
  go_wp2_with (first | (go_at_call 6; (with_reducible show Calls _ _ #[_, _, _, _, _, .agg #[.int .i64 0, _, _]] _ _); refine Calls.mono (gw_at (c1 _ _ (Pts.to hPW bBel))) ?_; rintro e w1 ⟨rfl, q1, rfl⟩) | (go_at_call 6; (with_reducible show Calls _ _ #[_, _, _, _, _, .agg #[.int .i64 393216, _, _]] _ _); refine Calls.mono (gw_at (c2 _ _ (Pts.to hPW bBel))) ?_; rintro e w1 ⟨rfl, q2, rfl⟩) | (go_at_call 8; refine Calls.mono (gw_at (c3 _ _ (Pts.to hPW bBel))) ?_; rintro e w1 ⟨rfl, q3, rfl⟩))
  go_ret
  exact ⟨rfl, bBel⟩

end Go.Proofs.YtipcbcngedpmkaaGreat
