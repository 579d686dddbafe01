/- Chapter 22: what the earlier chapters give.
Chapter 22: bodies, joints and pair keys in slices: what their cells say.
Whole structs of many cells stored into a block (beside wpList_load_mid): the world behind it is left open. No program is imported. -/
import Derived.Test.YtaahgblkmajceaaGreatBg2
import Derived.Test.YtaahgblkmajceaaGreatDtM
import Derived.Test.YtaahgblkmajceaaGreatCoD
import Derived.Test.YtaahgblkmajceaaGreatChecked
import Derived.Deep.MidRow
import Derived.Test.YtaahgblkmajceaaGreatKi1
import Derived.BigQuiet

namespace Go.Proofs.YtaahgblkmajceaaGreat
end Go.Proofs.YtaahgblkmajceaaGreat

set_option linter.unusedVariables false
namespace Go.Proofs.YtaahgblkmajceaaGreat
open Go.RowKit Fx

def FxIn (w : World) (f : Fxr) : Prop := Pts w f.A f.ps ∧ (f.A = none → f.cap = 0) ∧ f.ps.length ≤ f.cap ∧ f.cap ≤ maxLen
theorem FxIn.to {w w' : World} {f : Fxr} (h : FxIn w f) (hb : Below w.heap.size w w') : FxIn w' f := ⟨Pts.to h.1 hb, h.2⟩
structure Bdy where
  i : Int
  k : Int
  px : Int
  py : Int
  pa : Int
  vx : Int
  vy : Int
  av : Int
  fx : Int
  fy : Int
  tq : Int
  ld : Int
  ad : Int
  gs : Int
  bul : Bool
  fix : Bool
  nos : Bool
  asl : Bool
  idl : Int
  A : Option Addr
  cap : Nat
  fs : List Fxr
def bdc (f : Bdy) : List Value := [.int .i64 f.i, .int .i64 f.k, .int .i64 f.px, .int .i64 f.py, .int .i64 f.pa, .int .i64 f.vx, .int .i64 f.vy, .int .i64 f.av, .int .i64 f.fx, .int .i64 f.fy, .int .i64 f.tq, .int .i64 f.ld, .int .i64 f.ad, .int .i64 f.gs, .bool f.bul, .bool f.fix, .bool f.nos, .bool f.asl, .int .i64 f.idl, .slice f.A f.fs.length f.cap]
theorem bdc_len (f : Bdy) : (bdc f).length = 20 := rfl
def bdQ (w : World) (cs : List Value) (f : Bdy) : Prop := cs = bdc f ∧ i64k f.i ∧ Fxs w f.A f.fs ∧ (f.A = none → f.cap = 0) ∧ f.fs.length ≤ f.cap ∧ f.cap ≤ maxLen
abbrev Bods (w : World) (A : Option Addr) (l : List Bdy) : Prop := Els w 20 (bdQ w) A l
theorem bdQ.to {w w' : World} {cs : List Value} {f : Bdy} (h : bdQ w cs f) (hb : Below w.heap.size w w') : bdQ w' cs f := ⟨h.1, h.2.1, Fxs.to h.2.2.1 hb, h.2.2.2⟩
theorem Bods.to {w w' : World} {A : Option Addr} {l : List Bdy} (h : Bods w A l) (hb : Below w.heap.size w w') : Bods w' A l := Els.to h (by decide) (fun _ _ h => h.to hb) hb
theorem bods_open {w : World} {A : Option Addr} {l : List Bdy} (h : Bods w A l) (h0 : 0 < l.length) : ∃ b off, A = some ⟨b, off, none⟩ ∧ b < w.heap.size ∧ ∀ i (h : i < l.length), bdQ w (bdc l[i]) l[i] ∧ ∀ w', Below w.heap.size w w' → older b w' = true ∧ w'.rangeAt b (off + i * 20) (bdc l[i]) := by
  rcases h with h | ⟨b, off, rfl, hc⟩
  · rw [h] at h0; simp at h0
  · have hlt : b < w.heap.size := by
      obtain ⟨cs, _, k, rfl, _⟩ := hc 0 h0
      exact World.block_lt_of_cell? w ⟨b, off + 0 * 20 + 0, none⟩ (show _ = some (Value.int .i64 l[0].i) from k 0 (by decide))
    refine ⟨b, off, rfl, hlt, fun i hi => ?_⟩
    obtain ⟨cs, hl, k, hq⟩ := hc i hi
    obtain rfl : cs = bdc l[i] := hq.1
    exact ⟨hq, fun w' hb => ⟨(by have := hb.size; simp [older]; omega), fun j v hv => (hb.cell (p := ⟨b, off + i * 20 + j, none⟩) hlt).trans ((k j (by have := (List.getElem?_eq_some_iff.1 hv).1; rw [bdc_len] at this; exact this)).trans hv)⟩⟩

structure Jnt where
  i : Int
  k : Int
  a : Int
  b : Int
  ax : Int
  ay : Int
  bx : Int
  b_y : Int
  ux : Int
  uy : Int
  ra : Int
  el : Bool
  lo : Int
  up : Int
  em : Bool
  ms : Int
  mf : Int
  sf : Int
  br : Int
  cc : Bool
  m0 : Int
  m1 : Int
  m2 : Int
  m3 : Int
def jnc (f : Jnt) : List Value := [.int .i64 f.i, .int .i64 f.k, .int .i64 f.a, .int .i64 f.b, .int .i64 f.ax, .int .i64 f.ay, .int .i64 f.bx, .int .i64 f.b_y, .int .i64 f.ux, .int .i64 f.uy, .int .i64 f.ra, .bool f.el, .int .i64 f.lo, .int .i64 f.up, .bool f.em, .int .i64 f.ms, .int .i64 f.mf, .int .i64 f.sf, .int .i64 f.br, .bool f.cc, .int .i64 f.m0, .int .i64 f.m1, .int .i64 f.m2, .int .i64 f.m3]
theorem jnc_len (f : Jnt) : (jnc f).length = 24 := rfl
def jnQ (cs : List Value) (f : Jnt) : Prop := cs = jnc f ∧ i64k f.i ∧ i64k f.a ∧ i64k f.b
abbrev Jnts (w : World) (A : Option Addr) (l : List Jnt) : Prop := Els w 24 jnQ A l
theorem Jnts.to {w w' : World} {A : Option Addr} {l : List Jnt} (h : Jnts w A l) (hb : Below w.heap.size w w') : Jnts w' A l := Els.to h (by decide) (fun _ _ h => h) hb
theorem jnts_open {w : World} {A : Option Addr} {l : List Jnt} (h : Jnts w A l) (h0 : 0 < l.length) : ∃ b off, A = some ⟨b, off, none⟩ ∧ b < w.heap.size ∧ ∀ i (h : i < l.length), jnQ (jnc l[i]) l[i] ∧ ∀ w', Below w.heap.size w w' → older b w' = true ∧ w'.rangeAt b (off + i * 24) (jnc l[i]) := by
  rcases h with h | ⟨b, off, rfl, hc⟩
  · rw [h] at h0; simp at h0
  · have hlt : b < w.heap.size := by
      obtain ⟨cs, _, k, rfl, _⟩ := hc 0 h0
      exact World.block_lt_of_cell? w ⟨b, off + 0 * 24 + 0, none⟩ (show _ = some (Value.int .i64 l[0].i) from k 0 (by decide))
    refine ⟨b, off, rfl, hlt, fun i hi => ?_⟩
    obtain ⟨cs, hl, k, hq⟩ := hc i hi
    obtain rfl : cs = jnc l[i] := hq.1
    exact ⟨hq, fun w' hb => ⟨(by have := hb.size; simp [older]; omega), fun j v hv => (hb.cell (p := ⟨b, off + i * 24 + j, none⟩) hlt).trans ((k j (by have := (List.getElem?_eq_some_iff.1 hv).1; rw [jnc_len] at this; exact this)).trans hv)⟩⟩

structure Ky where
  a : Int
  p : Int
  b : Int
  q : Int
  deriving DecidableEq, Inhabited
def kyc (f : Ky) : List Value := [.int .i64 f.a, .int .i64 f.p, .int .i64 f.b, .int .i64 f.q]
theorem kyc_len (f : Ky) : (kyc f).length = 4 := rfl
def kv (l : List Ky) : List Value := l.flatMap kyc
theorem kv_len (l : List Ky) : (kv l).length = l.length * 4 := flat_len kyc_len l
theorem kv_snoc (l : List Ky) (e : Ky) : kv (l ++ [e]) = kv l ++ kyc e := by simp [kv]
abbrev Kys (w : World) (A : Option Addr) (l : List Ky) : Prop := Els w 4 (fun cs f => cs = kyc f) A l
theorem Kys.to {w w' : World} {A : Option Addr} {l : List Ky} (h : Kys w A l) (hb : Below w.heap.size w w') : Kys w' A l := Els.to h (by decide) (fun _ _ h => h) hb
theorem kys_open {w : World} {A : Option Addr} {l : List Ky} (h : Kys w A l) (h0 : 0 < l.length) : ∃ b off, A = some ⟨b, off, none⟩ ∧ b < w.heap.size ∧ ∀ i (h : i < l.length) w', Below w.heap.size w w' → older b w' = true ∧ w'.cell? ⟨b, off + i * 4, none⟩ = some (.int .i64 l[i].a) ∧ w'.cell? ⟨b, off + i * 4 + 1, none⟩ = some (.int .i64 l[i].p) ∧ w'.cell? ⟨b, off + i * 4 + 2, none⟩ = some (.int .i64 l[i].b) ∧ w'.cell? ⟨b, off + i * 4 + 3, none⟩ = some (.int .i64 l[i].q) := by
  rcases h with h | ⟨b, off, rfl, hc⟩
  · rw [h] at h0; simp at h0
  · have hlt : b < w.heap.size := by
      obtain ⟨cs, _, k, rfl⟩ := hc 0 h0
      exact World.block_lt_of_cell? w ⟨b, off + 0 * 4 + 0, none⟩ (show _ = some (Value.int .i64 l[0].a) from k 0 (by decide))
    refine ⟨b, off, rfl, hlt, fun i hi w' hb => ?_⟩
    obtain ⟨cs, _, k, rfl⟩ := hc i hi
    exact ⟨(by have := hb.size; simp [older]; omega), (hb.cell (p := ⟨b, off + i * 4 + 0, none⟩) hlt).trans (k 0 (by decide)), (hb.cell (p := ⟨b, off + i * 4 + 1, none⟩) hlt).trans (k 1 (by decide)), (hb.cell (p := ⟨b, off + i * 4 + 2, none⟩) hlt).trans (k 2 (by decide)), (hb.cell (p := ⟨b, off + i * 4 + 3, none⟩) hlt).trans (k 3 (by decide))⟩
theorem owns_kys {w : World} {B : Nat} {e : TypeId} {v : Value} {n : Nat} {l : List Ky} (h : w.ownsRow B e 4 v n (kv l)) : ∃ A cap, v = .slice A l.length cap ∧ n = l.length ∧ l.length ≤ cap ∧ cap ≤ maxLen ∧ Kys w A l := by
  obtain ⟨A, cap, h1, h2, h3, h4, h5, _⟩ := owns_els (c := kyc) kyc_len (by decide) h
  exact ⟨A, cap, h1, h2, h3, h4, h5⟩

section
open Go.ChangeShapes Go.WideShapes Go.Deep
variable {H : Type} {enc : TypeId × Value → H} {w : World} {base B : Nat} {spare : Nat → Bool} {held : Bool}

theorem rd_FxA {fuel : Nat} {cs : List Value} {x : DataW H × List MemPlace} (h : DataW.trod enc Tryz.prog w base spare held fuel 57 cs = some x) : ∃ f : Fxr, cs = fxc f ∧ FxIn w f := rd_Fxr h

theorem rd_Bdy {fuel : Nat} {cs : List Value} {x : DataW H × List MemPlace} (h : DataW.trod enc Tryz.prog w base spare held fuel 37 cs = some x) : ∃ f : Bdy, bdQ w cs f := by
  have hl := (rd_struct Tryz.underlying37 h).1
  rw [show Tryz.prog.cellsOf 37 = 20 from by kernel_rfl] at hl
  obtain ⟨c0, r0, rfl, hl_0⟩ := cons_of hl
  obtain ⟨c1, r1, rfl, hl_1⟩ := cons_of hl_0
  obtain ⟨c2, r2, rfl, hl_2⟩ := cons_of hl_1
  obtain ⟨c3, r3, rfl, hl_3⟩ := cons_of hl_2
  obtain ⟨c4, r4, rfl, hl_4⟩ := cons_of hl_3
  obtain ⟨c5, r5, rfl, hl_5⟩ := cons_of hl_4
  obtain ⟨c6, r6, rfl, hl_6⟩ := cons_of hl_5
  obtain ⟨c7, r7, rfl, hl_7⟩ := cons_of hl_6
  obtain ⟨c8, r8, rfl, hl_8⟩ := cons_of hl_7
  obtain ⟨c9, r9, rfl, hl_9⟩ := cons_of hl_8
  obtain ⟨c10, r10, rfl, hl_10⟩ := cons_of hl_9
  obtain ⟨c11, r11, rfl, hl_11⟩ := cons_of hl_10
  obtain ⟨c12, r12, rfl, hl_12⟩ := cons_of hl_11
  obtain ⟨c13, r13, rfl, hl_13⟩ := cons_of hl_12
  obtain ⟨c14, r14, rfl, hl_14⟩ := cons_of hl_13
  obtain ⟨c15, r15, rfl, hl_15⟩ := cons_of hl_14
  obtain ⟨c16, r16, rfl, hl_16⟩ := cons_of hl_15
  obtain ⟨c17, r17, rfl, hl_17⟩ := cons_of hl_16
  obtain ⟨c18, r18, rfl, hl_18⟩ := cons_of hl_17
  obtain ⟨c19, r19, rfl, hl_19⟩ := cons_of hl_18
  obtain rfl := List.eq_nil_of_length_eq_zero hl_19
  obtain ⟨-, fs1⟩ := rd_struct Tryz.underlying37 h
  obtain ⟨_, _, g2_⟩ := fs1 0 _ rfl
  have g2 : DataW.trod enc Tryz.prog w base spare held _ 3 (List.take (Tryz.prog.cellsOf 3) (List.drop 0 [c0, c1, c2, c3, c4, c5, c6, c7, c8, c9, c10, c11, c12, c13, c14, c15, c16, c17, c18, c19])) = _ := g2_
  clear g2_
  rw [show Tryz.prog.cellsOf 3 = 1 from by kernel_rfl] at g2
  replace g2 := (show DataW.trod enc Tryz.prog w base spare held _ 3 [c0] = _ from g2)
  obtain ⟨a3, ea3, wa3⟩ := rd_intw20 Tryz.underlying3 g2
  obtain rfl : c0 = _ := by simpa using ea3
  obtain ⟨_, _, g4_⟩ := fs1 1 _ rfl
  have g4 : DataW.trod enc Tryz.prog w base spare held _ 30 (List.take (Tryz.prog.cellsOf 30) (List.drop 1 [Value.int .i64 a3, c1, c2, c3, c4, c5, c6, c7, c8, c9, c10, c11, c12, c13, c14, c15, c16, c17, c18, c19])) = _ := g4_
  clear g4_
  rw [show Tryz.prog.cellsOf 30 = 1 from by kernel_rfl] at g4
  replace g4 := (show DataW.trod enc Tryz.prog w base spare held _ 30 [c1] = _ from g4)
  obtain ⟨a5, ea5⟩ := rd_int Tryz.underlying30 g4
  obtain rfl : c1 = _ := by simpa using ea5
  obtain ⟨_, _, g6_⟩ := fs1 2 _ rfl
  have g6 : DataW.trod enc Tryz.prog w base spare held _ 34 (List.take (Tryz.prog.cellsOf 34) (List.drop 2 [Value.int .i64 a3, Value.int .i64 a5, c2, c3, c4, c5, c6, c7, c8, c9, c10, c11, c12, c13, c14, c15, c16, c17, c18, c19])) = _ := g6_
  clear g6_
  rw [show Tryz.prog.cellsOf 34 = 3 from by kernel_rfl] at g6
  replace g6 := (show DataW.trod enc Tryz.prog w base spare held _ 34 [c2, c3, c4] = _ from g6)
  obtain ⟨-, fs7⟩ := rd_struct Tryz.underlying34 g6
  obtain ⟨_, _, g8_⟩ := fs7 0 _ rfl
  have g8 : DataW.trod enc Tryz.prog w base spare held _ 32 (List.take (Tryz.prog.cellsOf 32) (List.drop 0 [c2, c3, c4])) = _ := g8_
  clear g8_
  rw [show Tryz.prog.cellsOf 32 = 2 from by kernel_rfl] at g8
  replace g8 := (show DataW.trod enc Tryz.prog w base spare held _ 32 [c2, c3] = _ from g8)
  obtain ⟨-, fs9⟩ := rd_struct Tryz.underlying32 g8
  obtain ⟨_, _, g10_⟩ := fs9 0 _ rfl
  have g10 : DataW.trod enc Tryz.prog w base spare held _ 3 (List.take (Tryz.prog.cellsOf 3) (List.drop 0 [c2, c3])) = _ := g10_
  clear g10_
  rw [show Tryz.prog.cellsOf 3 = 1 from by kernel_rfl] at g10
  replace g10 := (show DataW.trod enc Tryz.prog w base spare held _ 3 [c2] = _ from g10)
  obtain ⟨a11, ea11⟩ := rd_int Tryz.underlying3 g10
  obtain rfl : c2 = _ := by simpa using ea11
  obtain ⟨_, _, g12_⟩ := fs9 1 _ rfl
  have g12 : DataW.trod enc Tryz.prog w base spare held _ 3 (List.take (Tryz.prog.cellsOf 3) (List.drop 1 [Value.int .i64 a11, c3])) = _ := g12_
  clear g12_
  rw [show Tryz.prog.cellsOf 3 = 1 from by kernel_rfl] at g12
  replace g12 := (show DataW.trod enc Tryz.prog w base spare held _ 3 [c3] = _ from g12)
  obtain ⟨a13, ea13⟩ := rd_int Tryz.underlying3 g12
  obtain rfl : c3 = _ := by simpa using ea13
  obtain ⟨_, _, g14_⟩ := fs7 1 _ rfl
  have g14 : DataW.trod enc Tryz.prog w base spare held _ 3 (List.take (Tryz.prog.cellsOf 3) (List.drop 2 [Value.int .i64 a11, Value.int .i64 a13, c4])) = _ := g14_
  clear g14_
  rw [show Tryz.prog.cellsOf 3 = 1 from by kernel_rfl] at g14
  replace g14 := (show DataW.trod enc Tryz.prog w base spare held _ 3 [c4] = _ from g14)
  obtain ⟨a15, ea15⟩ := rd_int Tryz.underlying3 g14
  obtain rfl : c4 = _ := by simpa using ea15
  obtain ⟨_, _, g16_⟩ := fs1 3 _ rfl
  have g16 : DataW.trod enc Tryz.prog w base spare held _ 32 (List.take (Tryz.prog.cellsOf 32) (List.drop 5 [Value.int .i64 a3, Value.int .i64 a5, Value.int .i64 a11, Value.int .i64 a13, Value.int .i64 a15, c5, c6, c7, c8, c9, c10, c11, c12, c13, c14, c15, c16, c17, c18, c19])) = _ := g16_
  clear g16_
  rw [show Tryz.prog.cellsOf 32 = 2 from by kernel_rfl] at g16
  replace g16 := (show DataW.trod enc Tryz.prog w base spare held _ 32 [c5, c6] = _ from g16)
  obtain ⟨-, fs17⟩ := rd_struct Tryz.underlying32 g16
  obtain ⟨_, _, g18_⟩ := fs17 0 _ rfl
  have g18 : DataW.trod enc Tryz.prog w base spare held _ 3 (List.take (Tryz.prog.cellsOf 3) (List.drop 0 [c5, c6])) = _ := g18_
  clear g18_
  rw [show Tryz.prog.cellsOf 3 = 1 from by kernel_rfl] at g18
  replace g18 := (show DataW.trod enc Tryz.prog w base spare held _ 3 [c5] = _ from g18)
  obtain ⟨a19, ea19⟩ := rd_int Tryz.underlying3 g18
  obtain rfl : c5 = _ := by simpa using ea19
  obtain ⟨_, _, g20_⟩ := fs17 1 _ rfl
  have g20 : DataW.trod enc Tryz.prog w base spare held _ 3 (List.take (Tryz.prog.cellsOf 3) (List.drop 1 [Value.int .i64 a19, c6])) = _ := g20_
  clear g20_
  rw [show Tryz.prog.cellsOf 3 = 1 from by kernel_rfl] at g20
  replace g20 := (show DataW.trod enc Tryz.prog w base spare held _ 3 [c6] = _ from g20)
  obtain ⟨a21, ea21⟩ := rd_int Tryz.underlying3 g20
  obtain rfl : c6 = _ := by simpa using ea21
  obtain ⟨_, _, g22_⟩ := fs1 4 _ rfl
  have g22 : DataW.trod enc Tryz.prog w base spare held _ 3 (List.take (Tryz.prog.cellsOf 3) (List.drop 7 [Value.int .i64 a3, Value.int .i64 a5, Value.int .i64 a11, Value.int .i64 a13, Value.int .i64 a15, Value.int .i64 a19, Value.int .i64 a21, c7, c8, c9, c10, c11, c12, c13, c14, c15, c16, c17, c18, c19])) = _ := g22_
  clear g22_
  rw [show Tryz.prog.cellsOf 3 = 1 from by kernel_rfl] at g22
  replace g22 := (show DataW.trod enc Tryz.prog w base spare held _ 3 [c7] = _ from g22)
  obtain ⟨a23, ea23⟩ := rd_int Tryz.underlying3 g22
  obtain rfl : c7 = _ := by simpa using ea23
  obtain ⟨_, _, g24_⟩ := fs1 5 _ rfl
  have g24 : DataW.trod enc Tryz.prog w base spare held _ 32 (List.take (Tryz.prog.cellsOf 32) (List.drop 8 [Value.int .i64 a3, Value.int .i64 a5, Value.int .i64 a11, Value.int .i64 a13, Value.int .i64 a15, Value.int .i64 a19, Value.int .i64 a21, Value.int .i64 a23, c8, c9, c10, c11, c12, c13, c14, c15, c16, c17, c18, c19])) = _ := g24_
  clear g24_
  rw [show Tryz.prog.cellsOf 32 = 2 from by kernel_rfl] at g24
  replace g24 := (show DataW.trod enc Tryz.prog w base spare held _ 32 [c8, c9] = _ from g24)
  obtain ⟨-, fs25⟩ := rd_struct Tryz.underlying32 g24
  obtain ⟨_, _, g26_⟩ := fs25 0 _ rfl
  have g26 : DataW.trod enc Tryz.prog w base spare held _ 3 (List.take (Tryz.prog.cellsOf 3) (List.drop 0 [c8, c9])) = _ := g26_
  clear g26_
  rw [show Tryz.prog.cellsOf 3 = 1 from by kernel_rfl] at g26
  replace g26 := (show DataW.trod enc Tryz.prog w base spare held _ 3 [c8] = _ from g26)
  obtain ⟨a27, ea27⟩ := rd_int Tryz.underlying3 g26
  obtain rfl : c8 = _ := by simpa using ea27
  obtain ⟨_, _, g28_⟩ := fs25 1 _ rfl
  have g28 : DataW.trod enc Tryz.prog w base spare held _ 3 (List.take (Tryz.prog.cellsOf 3) (List.drop 1 [Value.int .i64 a27, c9])) = _ := g28_
  clear g28_
  rw [show Tryz.prog.cellsOf 3 = 1 from by kernel_rfl] at g28
  replace g28 := (show DataW.trod enc Tryz.prog w base spare held _ 3 [c9] = _ from g28)
  obtain ⟨a29, ea29⟩ := rd_int Tryz.underlying3 g28
  obtain rfl : c9 = _ := by simpa using ea29
  obtain ⟨_, _, g30_⟩ := fs1 6 _ rfl
  have g30 : DataW.trod enc Tryz.prog w base spare held _ 3 (List.take (Tryz.prog.cellsOf 3) (List.drop 10 [Value.int .i64 a3, Value.int .i64 a5, Value.int .i64 a11, Value.int .i64 a13, Value.int .i64 a15, Value.int .i64 a19, Value.int .i64 a21, Value.int .i64 a23, Value.int .i64 a27, Value.int .i64 a29, c10, c11, c12, c13, c14, c15, c16, c17, c18, c19])) = _ := g30_
  clear g30_
  rw [show Tryz.prog.cellsOf 3 = 1 from by kernel_rfl] at g30
  replace g30 := (show DataW.trod enc Tryz.prog w base spare held _ 3 [c10] = _ from g30)
  obtain ⟨a31, ea31⟩ := rd_int Tryz.underlying3 g30
  obtain rfl : c10 = _ := by simpa using ea31
  obtain ⟨_, _, g32_⟩ := fs1 7 _ rfl
  have g32 : DataW.trod enc Tryz.prog w base spare held _ 3 (List.take (Tryz.prog.cellsOf 3) (List.drop 11 [Value.int .i64 a3, Value.int .i64 a5, Value.int .i64 a11, Value.int .i64 a13, Value.int .i64 a15, Value.int .i64 a19, Value.int .i64 a21, Value.int .i64 a23, Value.int .i64 a27, Value.int .i64 a29, Value.int .i64 a31, c11, c12, c13, c14, c15, c16, c17, c18, c19])) = _ := g32_
  clear g32_
  rw [show Tryz.prog.cellsOf 3 = 1 from by kernel_rfl] at g32
  replace g32 := (show DataW.trod enc Tryz.prog w base spare held _ 3 [c11] = _ from g32)
  obtain ⟨a33, ea33⟩ := rd_int Tryz.underlying3 g32
  obtain rfl : c11 = _ := by simpa using ea33
  obtain ⟨_, _, g34_⟩ := fs1 8 _ rfl
  have g34 : DataW.trod enc Tryz.prog w base spare held _ 3 (List.take (Tryz.prog.cellsOf 3) (List.drop 12 [Value.int .i64 a3, Value.int .i64 a5, Value.int .i64 a11, Value.int .i64 a13, Value.int .i64 a15, Value.int .i64 a19, Value.int .i64 a21, Value.int .i64 a23, Value.int .i64 a27, Value.int .i64 a29, Value.int .i64 a31, Value.int .i64 a33, c12, c13, c14, c15, c16, c17, c18, c19])) = _ := g34_
  clear g34_
  rw [show Tryz.prog.cellsOf 3 = 1 from by kernel_rfl] at g34
  replace g34 := (show DataW.trod enc Tryz.prog w base spare held _ 3 [c12] = _ from g34)
  obtain ⟨a35, ea35⟩ := rd_int Tryz.underlying3 g34
  obtain rfl : c12 = _ := by simpa using ea35
  obtain ⟨_, _, g36_⟩ := fs1 9 _ rfl
  have g36 : DataW.trod enc Tryz.prog w base spare held _ 3 (List.take (Tryz.prog.cellsOf 3) (List.drop 13 [Value.int .i64 a3, Value.int .i64 a5, Value.int .i64 a11, Value.int .i64 a13, Value.int .i64 a15, Value.int .i64 a19, Value.int .i64 a21, Value.int .i64 a23, Value.int .i64 a27, Value.int .i64 a29, Value.int .i64 a31, Value.int .i64 a33, Value.int .i64 a35, c13, c14, c15, c16, c17, c18, c19])) = _ := g36_
  clear g36_
  rw [show Tryz.prog.cellsOf 3 = 1 from by kernel_rfl] at g36
  replace g36 := (show DataW.trod enc Tryz.prog w base spare held _ 3 [c13] = _ from g36)
  obtain ⟨a37, ea37⟩ := rd_int Tryz.underlying3 g36
  obtain rfl : c13 = _ := by simpa using ea37
  obtain ⟨_, _, g38_⟩ := fs1 10 _ rfl
  have g38 : DataW.trod enc Tryz.prog w base spare held _ 4 (List.take (Tryz.prog.cellsOf 4) (List.drop 14 [Value.int .i64 a3, Value.int .i64 a5, Value.int .i64 a11, Value.int .i64 a13, Value.int .i64 a15, Value.int .i64 a19, Value.int .i64 a21, Value.int .i64 a23, Value.int .i64 a27, Value.int .i64 a29, Value.int .i64 a31, Value.int .i64 a33, Value.int .i64 a35, Value.int .i64 a37, c14, c15, c16, c17, c18, c19])) = _ := g38_
  clear g38_
  rw [show Tryz.prog.cellsOf 4 = 1 from by kernel_rfl] at g38
  replace g38 := (show DataW.trod enc Tryz.prog w base spare held _ 4 [c14] = _ from g38)
  obtain ⟨a39, ea39⟩ := rd_bool Tryz.underlying4 g38
  obtain rfl : c14 = _ := by simpa using ea39
  obtain ⟨_, _, g40_⟩ := fs1 11 _ rfl
  have g40 : DataW.trod enc Tryz.prog w base spare held _ 4 (List.take (Tryz.prog.cellsOf 4) (List.drop 15 [Value.int .i64 a3, Value.int .i64 a5, Value.int .i64 a11, Value.int .i64 a13, Value.int .i64 a15, Value.int .i64 a19, Value.int .i64 a21, Value.int .i64 a23, Value.int .i64 a27, Value.int .i64 a29, Value.int .i64 a31, Value.int .i64 a33, Value.int .i64 a35, Value.int .i64 a37, Value.bool a39, c15, c16, c17, c18, c19])) = _ := g40_
  clear g40_
  rw [show Tryz.prog.cellsOf 4 = 1 from by kernel_rfl] at g40
  replace g40 := (show DataW.trod enc Tryz.prog w base spare held _ 4 [c15] = _ from g40)
  obtain ⟨a41, ea41⟩ := rd_bool Tryz.underlying4 g40
  obtain rfl : c15 = _ := by simpa using ea41
  obtain ⟨_, _, g42_⟩ := fs1 12 _ rfl
  have g42 : DataW.trod enc Tryz.prog w base spare held _ 4 (List.take (Tryz.prog.cellsOf 4) (List.drop 16 [Value.int .i64 a3, Value.int .i64 a5, Value.int .i64 a11, Value.int .i64 a13, Value.int .i64 a15, Value.int .i64 a19, Value.int .i64 a21, Value.int .i64 a23, Value.int .i64 a27, Value.int .i64 a29, Value.int .i64 a31, Value.int .i64 a33, Value.int .i64 a35, Value.int .i64 a37, Value.bool a39, Value.bool a41, c16, c17, c18, c19])) = _ := g42_
  clear g42_
  rw [show Tryz.prog.cellsOf 4 = 1 from by kernel_rfl] at g42
  replace g42 := (show DataW.trod enc Tryz.prog w base spare held _ 4 [c16] = _ from g42)
  obtain ⟨a43, ea43⟩ := rd_bool Tryz.underlying4 g42
  obtain rfl : c16 = _ := by simpa using ea43
  obtain ⟨_, _, g44_⟩ := fs1 13 _ rfl
  have g44 : DataW.trod enc Tryz.prog w base spare held _ 4 (List.take (Tryz.prog.cellsOf 4) (List.drop 17 [Value.int .i64 a3, Value.int .i64 a5, Value.int .i64 a11, Value.int .i64 a13, Value.int .i64 a15, Value.int .i64 a19, Value.int .i64 a21, Value.int .i64 a23, Value.int .i64 a27, Value.int .i64 a29, Value.int .i64 a31, Value.int .i64 a33, Value.int .i64 a35, Value.int .i64 a37, Value.bool a39, Value.bool a41, Value.bool a43, c17, c18, c19])) = _ := g44_
  clear g44_
  rw [show Tryz.prog.cellsOf 4 = 1 from by kernel_rfl] at g44
  replace g44 := (show DataW.trod enc Tryz.prog w base spare held _ 4 [c17] = _ from g44)
  obtain ⟨a45, ea45⟩ := rd_bool Tryz.underlying4 g44
  obtain rfl : c17 = _ := by simpa using ea45
  obtain ⟨_, _, g46_⟩ := fs1 14 _ rfl
  have g46 : DataW.trod enc Tryz.prog w base spare held _ 3 (List.take (Tryz.prog.cellsOf 3) (List.drop 18 [Value.int .i64 a3, Value.int .i64 a5, Value.int .i64 a11, Value.int .i64 a13, Value.int .i64 a15, Value.int .i64 a19, Value.int .i64 a21, Value.int .i64 a23, Value.int .i64 a27, Value.int .i64 a29, Value.int .i64 a31, Value.int .i64 a33, Value.int .i64 a35, Value.int .i64 a37, Value.bool a39, Value.bool a41, Value.bool a43, Value.bool a45, c18, c19])) = _ := g46_
  clear g46_
  rw [show Tryz.prog.cellsOf 3 = 1 from by kernel_rfl] at g46
  replace g46 := (show DataW.trod enc Tryz.prog w base spare held _ 3 [c18] = _ from g46)
  obtain ⟨a47, ea47⟩ := rd_int Tryz.underlying3 g46
  obtain rfl : c18 = _ := by simpa using ea47
  obtain ⟨_, _, g48_⟩ := fs1 15 _ rfl
  have g48 : DataW.trod enc Tryz.prog w base spare held _ 35 (List.take (Tryz.prog.cellsOf 35) (List.drop 19 [Value.int .i64 a3, Value.int .i64 a5, Value.int .i64 a11, Value.int .i64 a13, Value.int .i64 a15, Value.int .i64 a19, Value.int .i64 a21, Value.int .i64 a23, Value.int .i64 a27, Value.int .i64 a29, Value.int .i64 a31, Value.int .i64 a33, Value.int .i64 a35, Value.int .i64 a37, Value.bool a39, Value.bool a41, Value.bool a43, Value.bool a45, Value.int .i64 a47, c19])) = _ := g48_
  clear g48_
  rw [show Tryz.prog.cellsOf 35 = 1 from by kernel_rfl] at g48
  replace g48 := (show DataW.trod enc Tryz.prog w base spare held _ 35 [c19] = _ from g48)
  obtain ⟨A49, cap50, l51, e51, hl51, hc51, hp51, hn51⟩ := rd_els 10 (fxQ w) Tryz.underlying35 (by kernel_rfl) (by decide) (fun m ci y hy => rd_Fxr hy) g48
  obtain rfl : c19 = _ := by simpa using e51
  exact ⟨⟨a3, a5, a11, a13, a15, a19, a21, a23, a27, a29, a31, a33, a35, a37, a39, a41, a43, a45, a47, A49, cap50, l51⟩, ⟨rfl, i64_of_wf wa3, hp51, hn51, hl51, hc51⟩⟩

theorem rd_Jnt {fuel : Nat} {cs : List Value} {x : DataW H × List MemPlace} (h : DataW.trod enc Tryz.prog w base spare held fuel 89 cs = some x) : ∃ f : Jnt, jnQ cs f := by
  have hl := (rd_struct Tryz.underlying89 h).1
  rw [show Tryz.prog.cellsOf 89 = 24 from by kernel_rfl] at hl
  obtain ⟨c0, r0, rfl, hl_0⟩ := cons_of hl
  obtain ⟨c1, r1, rfl, hl_1⟩ := cons_of hl_0
  obtain ⟨c2, r2, rfl, hl_2⟩ := cons_of hl_1
  obtain ⟨c3, r3, rfl, hl_3⟩ := cons_of hl_2
  obtain ⟨c4, r4, rfl, hl_4⟩ := cons_of hl_3
  obtain ⟨c5, r5, rfl, hl_5⟩ := cons_of hl_4
  obtain ⟨c6, r6, rfl, hl_6⟩ := cons_of hl_5
  obtain ⟨c7, r7, rfl, hl_7⟩ := cons_of hl_6
  obtain ⟨c8, r8, rfl, hl_8⟩ := cons_of hl_7
  obtain ⟨c9, r9, rfl, hl_9⟩ := cons_of hl_8
  obtain ⟨c10, r10, rfl, hl_10⟩ := cons_of hl_9
  obtain ⟨c11, r11, rfl, hl_11⟩ := cons_of hl_10
  obtain ⟨c12, r12, rfl, hl_12⟩ := cons_of hl_11
  obtain ⟨c13, r13, rfl, hl_13⟩ := cons_of hl_12
  obtain ⟨c14, r14, rfl, hl_14⟩ := cons_of hl_13
  obtain ⟨c15, r15, rfl, hl_15⟩ := cons_of hl_14
  obtain ⟨c16, r16, rfl, hl_16⟩ := cons_of hl_15
  obtain ⟨c17, r17, rfl, hl_17⟩ := cons_of hl_16
  obtain ⟨c18, r18, rfl, hl_18⟩ := cons_of hl_17
  obtain ⟨c19, r19, rfl, hl_19⟩ := cons_of hl_18
  obtain ⟨c20, r20, rfl, hl_20⟩ := cons_of hl_19
  obtain ⟨c21, r21, rfl, hl_21⟩ := cons_of hl_20
  obtain ⟨c22, r22, rfl, hl_22⟩ := cons_of hl_21
  obtain ⟨c23, r23, rfl, hl_23⟩ := cons_of hl_22
  obtain rfl := List.eq_nil_of_length_eq_zero hl_23
  obtain ⟨-, fs1⟩ := rd_struct Tryz.underlying89 h
  obtain ⟨_, _, g2_⟩ := fs1 0 _ rfl
  have g2 : DataW.trod enc Tryz.prog w base spare held _ 3 (List.take (Tryz.prog.cellsOf 3) (List.drop 0 [c0, c1, c2, c3, c4, c5, c6, c7, c8, c9, c10, c11, c12, c13, c14, c15, c16, c17, c18, c19, c20, c21, c22, c23])) = _ := g2_
  clear g2_
  rw [show Tryz.prog.cellsOf 3 = 1 from by kernel_rfl] at g2
  replace g2 := (show DataW.trod enc Tryz.prog w base spare held _ 3 [c0] = _ from g2)
  obtain ⟨a3, ea3, wa3⟩ := rd_intw20 Tryz.underlying3 g2
  obtain rfl : c0 = _ := by simpa using ea3
  obtain ⟨_, _, g4_⟩ := fs1 1 _ rfl
  have g4 : DataW.trod enc Tryz.prog w base spare held _ 86 (List.take (Tryz.prog.cellsOf 86) (List.drop 1 [Value.int .i64 a3, c1, c2, c3, c4, c5, c6, c7, c8, c9, c10, c11, c12, c13, c14, c15, c16, c17, c18, c19, c20, c21, c22, c23])) = _ := g4_
  clear g4_
  rw [show Tryz.prog.cellsOf 86 = 1 from by kernel_rfl] at g4
  replace g4 := (show DataW.trod enc Tryz.prog w base spare held _ 86 [c1] = _ from g4)
  obtain ⟨a5, ea5⟩ := rd_int Tryz.underlying86 g4
  obtain rfl : c1 = _ := by simpa using ea5
  obtain ⟨_, _, g6_⟩ := fs1 2 _ rfl
  have g6 : DataW.trod enc Tryz.prog w base spare held _ 3 (List.take (Tryz.prog.cellsOf 3) (List.drop 2 [Value.int .i64 a3, Value.int .i64 a5, c2, c3, c4, c5, c6, c7, c8, c9, c10, c11, c12, c13, c14, c15, c16, c17, c18, c19, c20, c21, c22, c23])) = _ := g6_
  clear g6_
  rw [show Tryz.prog.cellsOf 3 = 1 from by kernel_rfl] at g6
  replace g6 := (show DataW.trod enc Tryz.prog w base spare held _ 3 [c2] = _ from g6)
  obtain ⟨a7, ea7, wa7⟩ := rd_intw20 Tryz.underlying3 g6
  obtain rfl : c2 = _ := by simpa using ea7
  obtain ⟨_, _, g8_⟩ := fs1 3 _ rfl
  have g8 : DataW.trod enc Tryz.prog w base spare held _ 3 (List.take (Tryz.prog.cellsOf 3) (List.drop 3 [Value.int .i64 a3, Value.int .i64 a5, Value.int .i64 a7, c3, c4, c5, c6, c7, c8, c9, c10, c11, c12, c13, c14, c15, c16, c17, c18, c19, c20, c21, c22, c23])) = _ := g8_
  clear g8_
  rw [show Tryz.prog.cellsOf 3 = 1 from by kernel_rfl] at g8
  replace g8 := (show DataW.trod enc Tryz.prog w base spare held _ 3 [c3] = _ from g8)
  obtain ⟨a9, ea9, wa9⟩ := rd_intw20 Tryz.underlying3 g8
  obtain rfl : c3 = _ := by simpa using ea9
  obtain ⟨_, _, g10_⟩ := fs1 4 _ rfl
  have g10 : DataW.trod enc Tryz.prog w base spare held _ 32 (List.take (Tryz.prog.cellsOf 32) (List.drop 4 [Value.int .i64 a3, Value.int .i64 a5, Value.int .i64 a7, Value.int .i64 a9, c4, c5, c6, c7, c8, c9, c10, c11, c12, c13, c14, c15, c16, c17, c18, c19, c20, c21, c22, c23])) = _ := g10_
  clear g10_
  rw [show Tryz.prog.cellsOf 32 = 2 from by kernel_rfl] at g10
  replace g10 := (show DataW.trod enc Tryz.prog w base spare held _ 32 [c4, c5] = _ from g10)
  obtain ⟨-, fs11⟩ := rd_struct Tryz.underlying32 g10
  obtain ⟨_, _, g12_⟩ := fs11 0 _ rfl
  have g12 : DataW.trod enc Tryz.prog w base spare held _ 3 (List.take (Tryz.prog.cellsOf 3) (List.drop 0 [c4, c5])) = _ := g12_
  clear g12_
  rw [show Tryz.prog.cellsOf 3 = 1 from by kernel_rfl] at g12
  replace g12 := (show DataW.trod enc Tryz.prog w base spare held _ 3 [c4] = _ from g12)
  obtain ⟨a13, ea13⟩ := rd_int Tryz.underlying3 g12
  obtain rfl : c4 = _ := by simpa using ea13
  obtain ⟨_, _, g14_⟩ := fs11 1 _ rfl
  have g14 : DataW.trod enc Tryz.prog w base spare held _ 3 (List.take (Tryz.prog.cellsOf 3) (List.drop 1 [Value.int .i64 a13, c5])) = _ := g14_
  clear g14_
  rw [show Tryz.prog.cellsOf 3 = 1 from by kernel_rfl] at g14
  replace g14 := (show DataW.trod enc Tryz.prog w base spare held _ 3 [c5] = _ from g14)
  obtain ⟨a15, ea15⟩ := rd_int Tryz.underlying3 g14
  obtain rfl : c5 = _ := by simpa using ea15
  obtain ⟨_, _, g16_⟩ := fs1 5 _ rfl
  have g16 : DataW.trod enc Tryz.prog w base spare held _ 32 (List.take (Tryz.prog.cellsOf 32) (List.drop 6 [Value.int .i64 a3, Value.int .i64 a5, Value.int .i64 a7, Value.int .i64 a9, Value.int .i64 a13, Value.int .i64 a15, c6, c7, c8, c9, c10, c11, c12, c13, c14, c15, c16, c17, c18, c19, c20, c21, c22, c23])) = _ := g16_
  clear g16_
  rw [show Tryz.prog.cellsOf 32 = 2 from by kernel_rfl] at g16
  replace g16 := (show DataW.trod enc Tryz.prog w base spare held _ 32 [c6, c7] = _ from g16)
  obtain ⟨-, fs17⟩ := rd_struct Tryz.underlying32 g16
  obtain ⟨_, _, g18_⟩ := fs17 0 _ rfl
  have g18 : DataW.trod enc Tryz.prog w base spare held _ 3 (List.take (Tryz.prog.cellsOf 3) (List.drop 0 [c6, c7])) = _ := g18_
  clear g18_
  rw [show Tryz.prog.cellsOf 3 = 1 from by kernel_rfl] at g18
  replace g18 := (show DataW.trod enc Tryz.prog w base spare held _ 3 [c6] = _ from g18)
  obtain ⟨a19, ea19⟩ := rd_int Tryz.underlying3 g18
  obtain rfl : c6 = _ := by simpa using ea19
  obtain ⟨_, _, g20_⟩ := fs17 1 _ rfl
  have g20 : DataW.trod enc Tryz.prog w base spare held _ 3 (List.take (Tryz.prog.cellsOf 3) (List.drop 1 [Value.int .i64 a19, c7])) = _ := g20_
  clear g20_
  rw [show Tryz.prog.cellsOf 3 = 1 from by kernel_rfl] at g20
  replace g20 := (show DataW.trod enc Tryz.prog w base spare held _ 3 [c7] = _ from g20)
  obtain ⟨a21, ea21⟩ := rd_int Tryz.underlying3 g20
  obtain rfl : c7 = _ := by simpa using ea21
  obtain ⟨_, _, g22_⟩ := fs1 6 _ rfl
  have g22 : DataW.trod enc Tryz.prog w base spare held _ 32 (List.take (Tryz.prog.cellsOf 32) (List.drop 8 [Value.int .i64 a3, Value.int .i64 a5, Value.int .i64 a7, Value.int .i64 a9, Value.int .i64 a13, Value.int .i64 a15, Value.int .i64 a19, Value.int .i64 a21, c8, c9, c10, c11, c12, c13, c14, c15, c16, c17, c18, c19, c20, c21, c22, c23])) = _ := g22_
  clear g22_
  rw [show Tryz.prog.cellsOf 32 = 2 from by kernel_rfl] at g22
  replace g22 := (show DataW.trod enc Tryz.prog w base spare held _ 32 [c8, c9] = _ from g22)
  obtain ⟨-, fs23⟩ := rd_struct Tryz.underlying32 g22
  obtain ⟨_, _, g24_⟩ := fs23 0 _ rfl
  have g24 : DataW.trod enc Tryz.prog w base spare held _ 3 (List.take (Tryz.prog.cellsOf 3) (List.drop 0 [c8, c9])) = _ := g24_
  clear g24_
  rw [show Tryz.prog.cellsOf 3 = 1 from by kernel_rfl] at g24
  replace g24 := (show DataW.trod enc Tryz.prog w base spare held _ 3 [c8] = _ from g24)
  obtain ⟨a25, ea25⟩ := rd_int Tryz.underlying3 g24
  obtain rfl : c8 = _ := by simpa using ea25
  obtain ⟨_, _, g26_⟩ := fs23 1 _ rfl
  have g26 : DataW.trod enc Tryz.prog w base spare held _ 3 (List.take (Tryz.prog.cellsOf 3) (List.drop 1 [Value.int .i64 a25, c9])) = _ := g26_
  clear g26_
  rw [show Tryz.prog.cellsOf 3 = 1 from by kernel_rfl] at g26
  replace g26 := (show DataW.trod enc Tryz.prog w base spare held _ 3 [c9] = _ from g26)
  obtain ⟨a27, ea27⟩ := rd_int Tryz.underlying3 g26
  obtain rfl : c9 = _ := by simpa using ea27
  obtain ⟨_, _, g28_⟩ := fs1 7 _ rfl
  have g28 : DataW.trod enc Tryz.prog w base spare held _ 3 (List.take (Tryz.prog.cellsOf 3) (List.drop 10 [Value.int .i64 a3, Value.int .i64 a5, Value.int .i64 a7, Value.int .i64 a9, Value.int .i64 a13, Value.int .i64 a15, Value.int .i64 a19, Value.int .i64 a21, Value.int .i64 a25, Value.int .i64 a27, c10, c11, c12, c13, c14, c15, c16, c17, c18, c19, c20, c21, c22, c23])) = _ := g28_
  clear g28_
  rw [show Tryz.prog.cellsOf 3 = 1 from by kernel_rfl] at g28
  replace g28 := (show DataW.trod enc Tryz.prog w base spare held _ 3 [c10] = _ from g28)
  obtain ⟨a29, ea29⟩ := rd_int Tryz.underlying3 g28
  obtain rfl : c10 = _ := by simpa using ea29
  obtain ⟨_, _, g30_⟩ := fs1 8 _ rfl
  have g30 : DataW.trod enc Tryz.prog w base spare held _ 4 (List.take (Tryz.prog.cellsOf 4) (List.drop 11 [Value.int .i64 a3, Value.int .i64 a5, Value.int .i64 a7, Value.int .i64 a9, Value.int .i64 a13, Value.int .i64 a15, Value.int .i64 a19, Value.int .i64 a21, Value.int .i64 a25, Value.int .i64 a27, Value.int .i64 a29, c11, c12, c13, c14, c15, c16, c17, c18, c19, c20, c21, c22, c23])) = _ := g30_
  clear g30_
  rw [show Tryz.prog.cellsOf 4 = 1 from by kernel_rfl] at g30
  replace g30 := (show DataW.trod enc Tryz.prog w base spare held _ 4 [c11] = _ from g30)
  obtain ⟨a31, ea31⟩ := rd_bool Tryz.underlying4 g30
  obtain rfl : c11 = _ := by simpa using ea31
  obtain ⟨_, _, g32_⟩ := fs1 9 _ rfl
  have g32 : DataW.trod enc Tryz.prog w base spare held _ 3 (List.take (Tryz.prog.cellsOf 3) (List.drop 12 [Value.int .i64 a3, Value.int .i64 a5, Value.int .i64 a7, Value.int .i64 a9, Value.int .i64 a13, Value.int .i64 a15, Value.int .i64 a19, Value.int .i64 a21, Value.int .i64 a25, Value.int .i64 a27, Value.int .i64 a29, Value.bool a31, c12, c13, c14, c15, c16, c17, c18, c19, c20, c21, c22, c23])) = _ := g32_
  clear g32_
  rw [show Tryz.prog.cellsOf 3 = 1 from by kernel_rfl] at g32
  replace g32 := (show DataW.trod enc Tryz.prog w base spare held _ 3 [c12] = _ from g32)
  obtain ⟨a33, ea33⟩ := rd_int Tryz.underlying3 g32
  obtain rfl : c12 = _ := by simpa using ea33
  obtain ⟨_, _, g34_⟩ := fs1 10 _ rfl
  have g34 : DataW.trod enc Tryz.prog w base spare held _ 3 (List.take (Tryz.prog.cellsOf 3) (List.drop 13 [Value.int .i64 a3, Value.int .i64 a5, Value.int .i64 a7, Value.int .i64 a9, Value.int .i64 a13, Value.int .i64 a15, Value.int .i64 a19, Value.int .i64 a21, Value.int .i64 a25, Value.int .i64 a27, Value.int .i64 a29, Value.bool a31, Value.int .i64 a33, c13, c14, c15, c16, c17, c18, c19, c20, c21, c22, c23])) = _ := g34_
  clear g34_
  rw [show Tryz.prog.cellsOf 3 = 1 from by kernel_rfl] at g34
  replace g34 := (show DataW.trod enc Tryz.prog w base spare held _ 3 [c13] = _ from g34)
  obtain ⟨a35, ea35⟩ := rd_int Tryz.underlying3 g34
  obtain rfl : c13 = _ := by simpa using ea35
  obtain ⟨_, _, g36_⟩ := fs1 11 _ rfl
  have g36 : DataW.trod enc Tryz.prog w base spare held _ 4 (List.take (Tryz.prog.cellsOf 4) (List.drop 14 [Value.int .i64 a3, Value.int .i64 a5, Value.int .i64 a7, Value.int .i64 a9, Value.int .i64 a13, Value.int .i64 a15, Value.int .i64 a19, Value.int .i64 a21, Value.int .i64 a25, Value.int .i64 a27, Value.int .i64 a29, Value.bool a31, Value.int .i64 a33, Value.int .i64 a35, c14, c15, c16, c17, c18, c19, c20, c21, c22, c23])) = _ := g36_
  clear g36_
  rw [show Tryz.prog.cellsOf 4 = 1 from by kernel_rfl] at g36
  replace g36 := (show DataW.trod enc Tryz.prog w base spare held _ 4 [c14] = _ from g36)
  obtain ⟨a37, ea37⟩ := rd_bool Tryz.underlying4 g36
  obtain rfl : c14 = _ := by simpa using ea37
  obtain ⟨_, _, g38_⟩ := fs1 12 _ rfl
  have g38 : DataW.trod enc Tryz.prog w base spare held _ 3 (List.take (Tryz.prog.cellsOf 3) (List.drop 15 [Value.int .i64 a3, Value.int .i64 a5, Value.int .i64 a7, Value.int .i64 a9, Value.int .i64 a13, Value.int .i64 a15, Value.int .i64 a19, Value.int .i64 a21, Value.int .i64 a25, Value.int .i64 a27, Value.int .i64 a29, Value.bool a31, Value.int .i64 a33, Value.int .i64 a35, Value.bool a37, c15, c16, c17, c18, c19, c20, c21, c22, c23])) = _ := g38_
  clear g38_
  rw [show Tryz.prog.cellsOf 3 = 1 from by kernel_rfl] at g38
  replace g38 := (show DataW.trod enc Tryz.prog w base spare held _ 3 [c15] = _ from g38)
  obtain ⟨a39, ea39⟩ := rd_int Tryz.underlying3 g38
  obtain rfl : c15 = _ := by simpa using ea39
  obtain ⟨_, _, g40_⟩ := fs1 13 _ rfl
  have g40 : DataW.trod enc Tryz.prog w base spare held _ 3 (List.take (Tryz.prog.cellsOf 3) (List.drop 16 [Value.int .i64 a3, Value.int .i64 a5, Value.int .i64 a7, Value.int .i64 a9, Value.int .i64 a13, Value.int .i64 a15, Value.int .i64 a19, Value.int .i64 a21, Value.int .i64 a25, Value.int .i64 a27, Value.int .i64 a29, Value.bool a31, Value.int .i64 a33, Value.int .i64 a35, Value.bool a37, Value.int .i64 a39, c16, c17, c18, c19, c20, c21, c22, c23])) = _ := g40_
  clear g40_
  rw [show Tryz.prog.cellsOf 3 = 1 from by kernel_rfl] at g40
  replace g40 := (show DataW.trod enc Tryz.prog w base spare held _ 3 [c16] = _ from g40)
  obtain ⟨a41, ea41⟩ := rd_int Tryz.underlying3 g40
  obtain rfl : c16 = _ := by simpa using ea41
  obtain ⟨_, _, g42_⟩ := fs1 14 _ rfl
  have g42 : DataW.trod enc Tryz.prog w base spare held _ 3 (List.take (Tryz.prog.cellsOf 3) (List.drop 17 [Value.int .i64 a3, Value.int .i64 a5, Value.int .i64 a7, Value.int .i64 a9, Value.int .i64 a13, Value.int .i64 a15, Value.int .i64 a19, Value.int .i64 a21, Value.int .i64 a25, Value.int .i64 a27, Value.int .i64 a29, Value.bool a31, Value.int .i64 a33, Value.int .i64 a35, Value.bool a37, Value.int .i64 a39, Value.int .i64 a41, c17, c18, c19, c20, c21, c22, c23])) = _ := g42_
  clear g42_
  rw [show Tryz.prog.cellsOf 3 = 1 from by kernel_rfl] at g42
  replace g42 := (show DataW.trod enc Tryz.prog w base spare held _ 3 [c17] = _ from g42)
  obtain ⟨a43, ea43⟩ := rd_int Tryz.underlying3 g42
  obtain rfl : c17 = _ := by simpa using ea43
  obtain ⟨_, _, g44_⟩ := fs1 15 _ rfl
  have g44 : DataW.trod enc Tryz.prog w base spare held _ 3 (List.take (Tryz.prog.cellsOf 3) (List.drop 18 [Value.int .i64 a3, Value.int .i64 a5, Value.int .i64 a7, Value.int .i64 a9, Value.int .i64 a13, Value.int .i64 a15, Value.int .i64 a19, Value.int .i64 a21, Value.int .i64 a25, Value.int .i64 a27, Value.int .i64 a29, Value.bool a31, Value.int .i64 a33, Value.int .i64 a35, Value.bool a37, Value.int .i64 a39, Value.int .i64 a41, Value.int .i64 a43, c18, c19, c20, c21, c22, c23])) = _ := g44_
  clear g44_
  rw [show Tryz.prog.cellsOf 3 = 1 from by kernel_rfl] at g44
  replace g44 := (show DataW.trod enc Tryz.prog w base spare held _ 3 [c18] = _ from g44)
  obtain ⟨a45, ea45⟩ := rd_int Tryz.underlying3 g44
  obtain rfl : c18 = _ := by simpa using ea45
  obtain ⟨_, _, g46_⟩ := fs1 16 _ rfl
  have g46 : DataW.trod enc Tryz.prog w base spare held _ 4 (List.take (Tryz.prog.cellsOf 4) (List.drop 19 [Value.int .i64 a3, Value.int .i64 a5, Value.int .i64 a7, Value.int .i64 a9, Value.int .i64 a13, Value.int .i64 a15, Value.int .i64 a19, Value.int .i64 a21, Value.int .i64 a25, Value.int .i64 a27, Value.int .i64 a29, Value.bool a31, Value.int .i64 a33, Value.int .i64 a35, Value.bool a37, Value.int .i64 a39, Value.int .i64 a41, Value.int .i64 a43, Value.int .i64 a45, c19, c20, c21, c22, c23])) = _ := g46_
  clear g46_
  rw [show Tryz.prog.cellsOf 4 = 1 from by kernel_rfl] at g46
  replace g46 := (show DataW.trod enc Tryz.prog w base spare held _ 4 [c19] = _ from g46)
  obtain ⟨a47, ea47⟩ := rd_bool Tryz.underlying4 g46
  obtain rfl : c19 = _ := by simpa using ea47
  obtain ⟨_, _, g48_⟩ := fs1 17 _ rfl
  have g48 : DataW.trod enc Tryz.prog w base spare held _ 87 (List.take (Tryz.prog.cellsOf 87) (List.drop 20 [Value.int .i64 a3, Value.int .i64 a5, Value.int .i64 a7, Value.int .i64 a9, Value.int .i64 a13, Value.int .i64 a15, Value.int .i64 a19, Value.int .i64 a21, Value.int .i64 a25, Value.int .i64 a27, Value.int .i64 a29, Value.bool a31, Value.int .i64 a33, Value.int .i64 a35, Value.bool a37, Value.int .i64 a39, Value.int .i64 a41, Value.int .i64 a43, Value.int .i64 a45, Value.bool a47, c20, c21, c22, c23])) = _ := g48_
  clear g48_
  rw [show Tryz.prog.cellsOf 87 = 4 from by kernel_rfl] at g48
  replace g48 := (show DataW.trod enc Tryz.prog w base spare held _ 87 [c20, c21, c22, c23] = _ from g48)
  obtain ⟨xy49, _, _, _, hly49, hny49, hfy49⟩ := DataW.trod_array Tryz.underlying87 g48
  rw [show Tryz.prog.cellsOf 3 = 1 from by kernel_rfl] at hfy49
  have g50 := (hfy49 0 (by decide)).trans (List.getElem?_eq_getElem (show 0 < xy49.length by omega))
  generalize xy49[0]'(by omega) = g50v at g50
  replace g50 := (show DataW.trod enc Tryz.prog w base spare held _ 3 [c20] = _ from g50)
  obtain ⟨a51, ea51⟩ := rd_int Tryz.underlying3 g50
  obtain rfl : c20 = _ := by simpa using ea51
  have g52 := (hfy49 1 (by decide)).trans (List.getElem?_eq_getElem (show 1 < xy49.length by omega))
  generalize xy49[1]'(by omega) = g52v at g52
  replace g52 := (show DataW.trod enc Tryz.prog w base spare held _ 3 [c21] = _ from g52)
  obtain ⟨a53, ea53⟩ := rd_int Tryz.underlying3 g52
  obtain rfl : c21 = _ := by simpa using ea53
  have g54 := (hfy49 2 (by decide)).trans (List.getElem?_eq_getElem (show 2 < xy49.length by omega))
  generalize xy49[2]'(by omega) = g54v at g54
  replace g54 := (show DataW.trod enc Tryz.prog w base spare held _ 3 [c22] = _ from g54)
  obtain ⟨a55, ea55⟩ := rd_int Tryz.underlying3 g54
  obtain rfl : c22 = _ := by simpa using ea55
  have g56 := (hfy49 3 (by decide)).trans (List.getElem?_eq_getElem (show 3 < xy49.length by omega))
  generalize xy49[3]'(by omega) = g56v at g56
  replace g56 := (show DataW.trod enc Tryz.prog w base spare held _ 3 [c23] = _ from g56)
  obtain ⟨a57, ea57⟩ := rd_int Tryz.underlying3 g56
  obtain rfl : c23 = _ := by simpa using ea57
  exact ⟨⟨a3, a5, a7, a9, a13, a15, a19, a21, a25, a27, a29, a31, a33, a35, a37, a39, a41, a43, a45, a47, a51, a53, a55, a57⟩, ⟨rfl, i64_of_wf wa3, i64_of_wf wa7, i64_of_wf wa9⟩⟩

theorem rd_Ky {fuel : Nat} {cs : List Value} {x : DataW H × List MemPlace} (h : DataW.trod enc Tryz.prog w base spare held fuel 60 cs = some x) : ∃ f : Ky, cs = kyc f := by
  have hl := (rd_struct Tryz.underlying60 h).1
  rw [show Tryz.prog.cellsOf 60 = 4 from by kernel_rfl] at hl
  obtain ⟨c0, r0, rfl, hl_0⟩ := cons_of hl
  obtain ⟨c1, r1, rfl, hl_1⟩ := cons_of hl_0
  obtain ⟨c2, r2, rfl, hl_2⟩ := cons_of hl_1
  obtain ⟨c3, r3, rfl, hl_3⟩ := cons_of hl_2
  obtain rfl := List.eq_nil_of_length_eq_zero hl_3
  obtain ⟨-, fs1⟩ := rd_struct Tryz.underlying60 h
  obtain ⟨_, _, g2_⟩ := fs1 0 _ rfl
  have g2 : DataW.trod enc Tryz.prog w base spare held _ 3 (List.take (Tryz.prog.cellsOf 3) (List.drop 0 [c0, c1, c2, c3])) = _ := g2_
  clear g2_
  rw [show Tryz.prog.cellsOf 3 = 1 from by kernel_rfl] at g2
  replace g2 := (show DataW.trod enc Tryz.prog w base spare held _ 3 [c0] = _ from g2)
  obtain ⟨a3, ea3⟩ := rd_int Tryz.underlying3 g2
  obtain rfl : c0 = _ := by simpa using ea3
  obtain ⟨_, _, g4_⟩ := fs1 1 _ rfl
  have g4 : DataW.trod enc Tryz.prog w base spare held _ 3 (List.take (Tryz.prog.cellsOf 3) (List.drop 1 [Value.int .i64 a3, c1, c2, c3])) = _ := g4_
  clear g4_
  rw [show Tryz.prog.cellsOf 3 = 1 from by kernel_rfl] at g4
  replace g4 := (show DataW.trod enc Tryz.prog w base spare held _ 3 [c1] = _ from g4)
  obtain ⟨a5, ea5⟩ := rd_int Tryz.underlying3 g4
  obtain rfl : c1 = _ := by simpa using ea5
  obtain ⟨_, _, g6_⟩ := fs1 2 _ rfl
  have g6 : DataW.trod enc Tryz.prog w base spare held _ 3 (List.take (Tryz.prog.cellsOf 3) (List.drop 2 [Value.int .i64 a3, Value.int .i64 a5, c2, c3])) = _ := g6_
  clear g6_
  rw [show Tryz.prog.cellsOf 3 = 1 from by kernel_rfl] at g6
  replace g6 := (show DataW.trod enc Tryz.prog w base spare held _ 3 [c2] = _ from g6)
  obtain ⟨a7, ea7⟩ := rd_int Tryz.underlying3 g6
  obtain rfl : c2 = _ := by simpa using ea7
  obtain ⟨_, _, g8_⟩ := fs1 3 _ rfl
  have g8 : DataW.trod enc Tryz.prog w base spare held _ 3 (List.take (Tryz.prog.cellsOf 3) (List.drop 3 [Value.int .i64 a3, Value.int .i64 a5, Value.int .i64 a7, c3])) = _ := g8_
  clear g8_
  rw [show Tryz.prog.cellsOf 3 = 1 from by kernel_rfl] at g8
  replace g8 := (show DataW.trod enc Tryz.prog w base spare held _ 3 [c3] = _ from g8)
  obtain ⟨a9, ea9⟩ := rd_int Tryz.underlying3 g8
  obtain rfl : c3 = _ := by simpa using ea9
  exact ⟨⟨a3, a5, a7, a9⟩, rfl⟩

end

end Go.Proofs.YtaahgblkmajceaaGreat

set_option linter.unusedVariables false
namespace Go.Proofs.YtaahgblkmajceaaGreat
open Go.RowKit

theorem blk_cellsW {b : Nat} {t : TypeId} : ∀ (vs : List Value) (o : Nat) (w : World) (c : Array Value), blk w b c t → o + vs.length = c.size → ∃ c' : Array Value, blk (w.setCells b o vs) b c' t ∧ c'.toList = c.toList.take o ++ vs
  | [], o, w, c, h, hl => ⟨c, h, by rw [List.append_nil, List.take_of_length_le]; simp at hl; simp; omega⟩
  | v :: r, o, w, c, h, hl => by
    simp only [List.length_cons] at hl
    obtain ⟨c', h1, h2⟩ := blk_cellsW r (o + 1) _ (c.setIfInBounds o v) (blk_set (i := o) (v := v) h) (by simp; omega)
    refine ⟨c', h1, ?_⟩
    rw [h2, Array.toList_setIfInBounds]
    have : (c.toList.set o v).take (o + 1) = c.toList.take o ++ [v] := by
      apply List.ext_getElem?
      intro i
      by_cases h3 : i < o
      · rw [List.getElem?_take_of_lt (by omega), List.getElem?_set_ne (by omega), List.getElem?_append_left (by simp; omega), List.getElem?_take_of_lt h3]
      · by_cases h4 : i = o
        · subst h4
          rw [List.getElem?_take_of_lt (by omega), List.getElem?_set_self (by simp; omega), List.getElem?_append_right (by simp; omega)]
          have : i - (List.take i c.toList).length = 0 := by simp; omega
          rw [this]; rfl
        · rw [List.getElem?_take_eq_none (by omega), List.getElem?_eq_none (by simp; omega)]
    rw [this]; simp

theorem blk_otherW {b b' : Nat} {t : TypeId} {c : Array Value} (hne : b ≠ b') : ∀ (vs : List Value) (o : Nat) (w : World), blk w b' c t → blk (w.setCells b o vs) b' c t
  | [], _, _, h => h
  | v :: r, o, w, h => blk_otherW hne r (o + 1) _ (blk_other (i := o) (v := v) hne h)

theorem below_cellsW {B b : Nat} {X : World} (hB : B ≤ b) : ∀ (vs : List Value) (o : Nat) (w : World), Below B X w → Below B X (w.setCells b o vs)
  | [], _, _, h => h
  | v :: r, o, w, h => below_cellsW hB r (o + 1) _ (h.setCell hB v)

theorem wpList_store_wide {P : Program} {ops : Array Oper} {rest : List Oper} {op : Oper} {a : Act} {w : World} {Q : Exit → Act → World → Prop} (hgd : op.guard = none) (ty : TypeId) (x y : Operand) (ho : op.op = .store ty x y)
    (b : Nat) (cells : List Value) (hx : a.eval x = .pointer (some ⟨b, 0, none⟩)) (hy : a.eval y = .agg cells.toArray) (c : Array Value) (t : TypeId) (kb : blk w b c t) (hs : c.toList.length = cells.length)
    (hi : (P.info? ty).map (·.size) = some cells.length) (h1 : cells.all (·.oneCell') = true)
    (h : ∀ W', blk W' b cells.toArray t → (∀ B X, B ≤ b → Below B X w → Below B X W') → (∀ b' c' t', b ≠ b' → blk w b' c' t' → blk W' b' c' t') → W'.heap.size = w.heap.size → wpList P ops Q rest (a.put op.dst undef) W') : wpList P ops Q (op :: rest) a w := by
  have hs' : c.size = cells.toArray.size := by simpa using hs
  refine wpList_store_mid hgd ty x y ho b 0 cells.toArray hx hy ?_ (by simpa using hi) (all_oneCell_toArray fun v hv => List.all_eq_true.1 h1 v hv) (h _ ?_ ?_ ?_ ?_)
  · intro j hj
    rw [Nat.zero_add, blk_cell kb, blk_free kb]
    exact ⟨by rw [Array.getElem?_eq_getElem (by omega)]; rfl, rfl⟩
  · obtain ⟨c', h2, h3⟩ := blk_cellsW cells 0 w c kb (by simpa using hs.symm)
    have : c' = cells.toArray := by
      apply Array.ext'
      simpa using h3
    rw [this] at h2; exact h2
  · exact fun B X hB hb => below_cellsW hB _ _ _ hb
  · exact fun b' c' t' hne hk => blk_otherW hne _ _ _ hk
  · have h2 := (below_cellsW (B := 0) (X := w) (b := b) (Nat.zero_le _) cells 0 w (Below.refl _ _)).size
    have : ∀ (vs : List Value) (o : Nat) (w : World), (w.setCells b o vs).heap.size = w.heap.size := by
      intro vs
      induction vs with
      | nil => intro o w; rfl
      | cons v r ih => intro o w; show ((w.setCell ⟨b, o, none⟩ v).setCells b (o + 1) r).heap.size = _; rw [ih]; simp [World.setCell]
    exact this _ _ _

theorem wp_store_wide {P : Program} {op : Oper} {a : Act} {w : World} {K : Act → World → Prop} {Q : Exit → Act → World → Prop} (ty : TypeId) (x y : Operand) (ho : op.op = .store ty x y)
    (b : Nat) (cells : List Value) (hx : a.eval x = .pointer (some ⟨b, 0, none⟩)) (hy : a.eval y = .agg cells.toArray) (c : Array Value) (t : TypeId) (kb : blk w b c t) (hs : c.toList.length = cells.length)
    (hi : (P.info? ty).map (·.size) = some cells.length) (h1 : cells.all (·.oneCell') = true)
    (h : ∀ W', blk W' b cells.toArray t → (∀ B X, B ≤ b → Below B X w → Below B X W') → (∀ b' c' t', b ≠ b' → blk w b' c' t' → blk W' b' c' t') → W'.heap.size = w.heap.size → K (a.put op.dst undef) W') : op.wp P a w K Q := by
  have hs' : c.size = cells.toArray.size := by simpa using hs
  refine wp_store_mid ty x y ho b 0 cells.toArray hx hy ?_ (by simpa using hi) (all_oneCell_toArray fun v hv => List.all_eq_true.1 h1 v hv) (h _ ?_ ?_ ?_ ?_)
  · intro j hj
    rw [Nat.zero_add, blk_cell kb, blk_free kb]
    exact ⟨by rw [Array.getElem?_eq_getElem (by omega)]; rfl, rfl⟩
  · obtain ⟨c', h2, h3⟩ := blk_cellsW cells 0 w c kb (by simpa using hs.symm)
    have : c' = cells.toArray := by
      apply Array.ext'
      simpa using h3
    rw [this] at h2; exact h2
  · exact fun B X hB hb => below_cellsW hB _ _ _ hb
  · exact fun b' c' t' hne hk => blk_otherW hne _ _ _ hk
  · have : ∀ (vs : List Value) (o : Nat) (w : World), (w.setCells b o vs).heap.size = w.heap.size := by
      intro vs
      induction vs with
      | nil => intro o w; rfl
      | cons v r ih => intro o w; show ((w.setCell ⟨b, o, none⟩ v).setCells b (o + 1) r).heap.size = _; rw [ih]; simp [World.setCell]
    exact this _ _ _

theorem quiet_load_mid {P : Program} {C : World → Prop} {o : Oper} {a : Act} {K : Act → Prop} (ty : TypeId) (x : Operand) (ho : o.op = .load ty x)
    (b off : Nat) (hx : a.eval x = .pointer (some ⟨b, off, none⟩)) (cs : List Value) (d : TypeDesc) (hc : ∀ w, C w → w.rangeAt b off cs)
    (hu : P.underlying ty = some d) (hd : d.isRow = true) (hi : (P.info? ty).map (·.size) = some cs.length) (hk : K (a.put o.dst (.agg cs.toArray))) : o.quiet P a C K :=
  ⟨_, fun w hw => by
    unfold Oper.quietAt execOp
    simp only [ho, hx, Instr.loadAt, Instr.sureAddr, Sem.run_bind, Sem.run_pure, Result.andThen_ok, run_loadVar_mid w b off ty cs d (hc w hw) hu hd hi]
    exact ⟨rfl, rfl⟩, hk⟩

end Go.Proofs.YtaahgblkmajceaaGreat
