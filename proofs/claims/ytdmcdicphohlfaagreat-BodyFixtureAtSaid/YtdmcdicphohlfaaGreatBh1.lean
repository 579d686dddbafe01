/- Chapter 22: what the earlier chapters give.
Chapter 22: bodies, joints and pair keys in slices: what their cells say.
Whole structs of many cells stored into a block (beside wpList_load_mid): the world behind it is left open. No program is imported. -/
import Derived.Test.YtdmcdicphohlfaaGreatBg2
import Derived.Test.YtdmcdicphohlfaaGreatDtM
import Derived.Test.YtdmcdicphohlfaaGreatCoD
import Derived.Test.YtdmcdicphohlfaaGreatChecked
import Derived.Deep.MidRow
import Derived.Test.YtdmcdicphohlfaaGreatKi1
import Derived.BigQuiet

namespace Go.Proofs.YtdmcdicphohlfaaGreat
end Go.Proofs.YtdmcdicphohlfaaGreat

set_option linter.unusedVariables false
namespace Go.Proofs.YtdmcdicphohlfaaGreat
open Go.RowKit Fx

def FxIn (w : World) (f : Fxr) : Prop := Pts w f.A f.ps ∧ (f.A = none → f.cap = 0) ∧ f.ps.length ≤ f.cap ∧ f.cap ≤ maxLen
theorem FxIn.to {w w' : World} {f : Fxr} (h : FxIn w f) (hb : Below w.heap.size w w') : FxIn w' f := ⟨Pts.to h.1 hb, h.2⟩
structure Bdy where
  i : Int
  k : Int
  px : Int
  py : Int
  pa : Int
  vx : Int
  vy : Int
  av : Int
  fx : Int
  fy : Int
  tq : Int
  ld : Int
  ad : Int
  gs : Int
  bul : Bool
  fix : Bool
  nos : Bool
  asl : Bool
  idl : Int
  A : Option Addr
  cap : Nat
  fs : List Fxr
def bdc (f : Bdy) : List Value := [.int .i64 f.i, .int .i64 f.k, .int .i64 f.px, .int .i64 f.py, .int .i64 f.pa, .int .i64 f.vx, .int .i64 f.vy, .int .i64 f.av, .int .i64 f.fx, .int .i64 f.fy, .int .i64 f.tq, .int .i64 f.ld, .int .i64 f.ad, .int .i64 f.gs, .bool f.bul, .bool f.fix, .bool f.nos, .bool f.asl, .int .i64 f.idl, .slice f.A f.fs.length f.cap]
theorem bdc_len (f : Bdy) : (bdc f).length = 20 := rfl
def bdQ (w : World) (cs : List Value) (f : Bdy) : Prop := cs = bdc f ∧ i64k f.i ∧ Fxs w f.A f.fs ∧ (f.A = none → f.cap = 0) ∧ f.fs.length ≤ f.cap ∧ f.cap ≤ maxLen
abbrev Bods (w : World) (A : Option Addr) (l : List Bdy) : Prop := Els w 20 (bdQ w) A l
theorem bdQ.to {w w' : World} {cs : List Value} {f : Bdy} (h : bdQ w cs f) (hb : Below w.heap.size w w') : bdQ w' cs f := ⟨h.1, h.2.1, Fxs.to h.2.2.1 hb, h.2.2.2⟩
theorem Bods.to {w w' : World} {A : Option Addr} {l : List Bdy} (h : Bods w A l) (hb : Below w.heap.size w w') : Bods w' A l := Els.to h (by decide) (fun _ _ h => h.to hb) hb
structure Jnt where
  i : Int
  k : Int
  a : Int
  b : Int
  ax : Int
  ay : Int
  bx : Int
  b_y : Int
  ux : Int
  uy : Int
  ra : Int
  el : Bool
  lo : Int
  up : Int
  em : Bool
  ms : Int
  mf : Int
  sf : Int
  br : Int
  cc : Bool
  m0 : Int
  m1 : Int
  m2 : Int
  m3 : Int
def jnc (f : Jnt) : List Value := [.int .i64 f.i, .int .i64 f.k, .int .i64 f.a, .int .i64 f.b, .int .i64 f.ax, .int .i64 f.ay, .int .i64 f.bx, .int .i64 f.b_y, .int .i64 f.ux, .int .i64 f.uy, .int .i64 f.ra, .bool f.el, .int .i64 f.lo, .int .i64 f.up, .bool f.em, .int .i64 f.ms, .int .i64 f.mf, .int .i64 f.sf, .int .i64 f.br, .bool f.cc, .int .i64 f.m0, .int .i64 f.m1, .int .i64 f.m2, .int .i64 f.m3]
def jnQ (cs : List Value) (f : Jnt) : Prop := cs = jnc f ∧ i64k f.i ∧ i64k f.a ∧ i64k f.b
abbrev Jnts (w : World) (A : Option Addr) (l : List Jnt) : Prop := Els w 24 jnQ A l
theorem Jnts.to {w w' : World} {A : Option Addr} {l : List Jnt} (h : Jnts w A l) (hb : Below w.heap.size w w') : Jnts w' A l := Els.to h (by decide) (fun _ _ h => h) hb
structure Ky where
  a : Int
  p : Int
  b : Int
  q : Int
  deriving DecidableEq, Inhabited
def kyc (f : Ky) : List Value := [.int .i64 f.a, .int .i64 f.p, .int .i64 f.b, .int .i64 f.q]
abbrev Kys (w : World) (A : Option Addr) (l : List Ky) : Prop := Els w 4 (fun cs f => cs = kyc f) A l
theorem Kys.to {w w' : World} {A : Option Addr} {l : List Ky} (h : Kys w A l) (hb : Below w.heap.size w w') : Kys w' A l := Els.to h (by decide) (fun _ _ h => h) hb
section
open Go.ChangeShapes Go.WideShapes Go.Deep
variable {H : Type} {enc : TypeId × Value → H} {w : World} {base B : Nat} {spare : Nat → Bool} {held : Bool}

theorem rd_FxA {fuel : Nat} {cs : List Value} {x : DataW H × List MemPlace} (h : DataW.trod enc Tryz.prog w base spare held fuel 35 cs = some x) : ∃ f : Fxr, cs = fxc f ∧ FxIn w f := rd_Fxr h

end

end Go.Proofs.YtdmcdicphohlfaaGreat

set_option linter.unusedVariables false
namespace Go.Proofs.YtdmcdicphohlfaaGreat
open Go.RowKit

theorem blk_cellsW {b : Nat} {t : TypeId} : ∀ (vs : List Value) (o : Nat) (w : World) (c : Array Value), blk w b c t → o + vs.length = c.size → ∃ c' : Array Value, blk (w.setCells b o vs) b c' t ∧ c'.toList = c.toList.take o ++ vs
  | [], o, w, c, h, hl => ⟨c, h, by rw [List.append_nil, List.take_of_length_le]; simp at hl; simp; omega⟩
  | v :: r, o, w, c, h, hl => by
    simp only [List.length_cons] at hl
    obtain ⟨c', h1, h2⟩ := blk_cellsW r (o + 1) _ (c.setIfInBounds o v) (blk_set (i := o) (v := v) h) (by simp; omega)
    refine ⟨c', h1, ?_⟩
    rw [h2, Array.toList_setIfInBounds]
    have : (c.toList.set o v).take (o + 1) = c.toList.take o ++ [v] := by
      apply List.ext_getElem?
      intro i
      by_cases h3 : i < o
      · rw [List.getElem?_take_of_lt (by omega), List.getElem?_set_ne (by omega), List.getElem?_append_left (by simp; omega), List.getElem?_take_of_lt h3]
      · by_cases h4 : i = o
        · subst h4
          rw [List.getElem?_take_of_lt (by omega), List.getElem?_set_self (by simp; omega), List.getElem?_append_right (by simp; omega)]
          have : i - (List.take i c.toList).length = 0 := by simp; omega
          rw [this]; rfl
        · rw [List.getElem?_take_eq_none (by omega), List.getElem?_eq_none (by simp; omega)]
    rw [this]; simp

theorem blk_otherW {b b' : Nat} {t : TypeId} {c : Array Value} (hne : b ≠ b') : ∀ (vs : List Value) (o : Nat) (w : World), blk w b' c t → blk (w.setCells b o vs) b' c t
  | [], _, _, h => h
  | v :: r, o, w, h => blk_otherW hne r (o + 1) _ (blk_other (i := o) (v := v) hne h)

theorem below_cellsW {B b : Nat} {X : World} (hB : B ≤ b) : ∀ (vs : List Value) (o : Nat) (w : World), Below B X w → Below B X (w.setCells b o vs)
  | [], _, _, h => h
  | v :: r, o, w, h => below_cellsW hB r (o + 1) _ (h.setCell hB v)

theorem wpList_store_wide {P : Program} {ops : Array Oper} {rest : List Oper} {op : Oper} {a : Act} {w : World} {Q : Exit → Act → World → Prop} (hgd : op.guard = none) (ty : TypeId) (x y : Operand) (ho : op.op = .store ty x y)
    (b : Nat) (cells : List Value) (hx : a.eval x = .pointer (some ⟨b, 0, none⟩)) (hy : a.eval y = .agg cells.toArray) (c : Array Value) (t : TypeId) (kb : blk w b c t) (hs : c.toList.length = cells.length)
    (hi : (P.info? ty).map (·.size) = some cells.length) (h1 : cells.all (·.oneCell') = true)
    (h : ∀ W', blk W' b cells.toArray t → (∀ B X, B ≤ b → Below B X w → Below B X W') → (∀ b' c' t', b ≠ b' → blk w b' c' t' → blk W' b' c' t') → W'.heap.size = w.heap.size → wpList P ops Q rest (a.put op.dst undef) W') : wpList P ops Q (op :: rest) a w := by
  have hs' : c.size = cells.toArray.size := by simpa using hs
  refine wpList_store_mid hgd ty x y ho b 0 cells.toArray hx hy ?_ (by simpa using hi) (all_oneCell_toArray fun v hv => List.all_eq_true.1 h1 v hv) (h _ ?_ ?_ ?_ ?_)
  · intro j hj
    rw [Nat.zero_add, blk_cell kb, blk_free kb]
    exact ⟨by rw [Array.getElem?_eq_getElem (by omega)]; rfl, rfl⟩
  · obtain ⟨c', h2, h3⟩ := blk_cellsW cells 0 w c kb (by simpa using hs.symm)
    have : c' = cells.toArray := by
      apply Array.ext'
      simpa using h3
    rw [this] at h2; exact h2
  · exact fun B X hB hb => below_cellsW hB _ _ _ hb
  · exact fun b' c' t' hne hk => blk_otherW hne _ _ _ hk
  · have h2 := (below_cellsW (B := 0) (X := w) (b := b) (Nat.zero_le _) cells 0 w (Below.refl _ _)).size
    have : ∀ (vs : List Value) (o : Nat) (w : World), (w.setCells b o vs).heap.size = w.heap.size := by
      intro vs
      induction vs with
      | nil => intro o w; rfl
      | cons v r ih => intro o w; show ((w.setCell ⟨b, o, none⟩ v).setCells b (o + 1) r).heap.size = _; rw [ih]; simp [World.setCell]
    exact this _ _ _

theorem quiet_load_mid {P : Program} {C : World → Prop} {o : Oper} {a : Act} {K : Act → Prop} (ty : TypeId) (x : Operand) (ho : o.op = .load ty x)
    (b off : Nat) (hx : a.eval x = .pointer (some ⟨b, off, none⟩)) (cs : List Value) (d : TypeDesc) (hc : ∀ w, C w → w.rangeAt b off cs)
    (hu : P.underlying ty = some d) (hd : d.isRow = true) (hi : (P.info? ty).map (·.size) = some cs.length) (hk : K (a.put o.dst (.agg cs.toArray))) : o.quiet P a C K :=
  ⟨_, fun w hw => by
    unfold Oper.quietAt execOp
    simp only [ho, hx, Instr.loadAt, Instr.sureAddr, Sem.run_bind, Sem.run_pure, Result.andThen_ok, run_loadVar_mid w b off ty cs d (hc w hw) hu hd hi]
    exact ⟨rfl, rfl⟩, hk⟩

end Go.Proofs.YtdmcdicphohlfaaGreat
