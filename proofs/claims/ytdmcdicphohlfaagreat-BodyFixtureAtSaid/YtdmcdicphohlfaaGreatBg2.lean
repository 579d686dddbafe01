/- Chapter 20: Go's library at this program: slices.Sort at ints, slices.Sorted(maps.Keys(m)) at the map of leaves.
Chapter 20: contracts of collect, search, Query, RayQuery; the methods of a nil tree.
Chapter 20: contracts of search, Query, RayQuery.
Chapter 20: contract of Pairs.
Chapter 20: rows as values that are not written out; EqualInts, EqualPairs, MaxHeight.
Chapter 20: the statements' unitBox and example.
Boxes and operations in slices: what their cells say. -/
import Derived.Shelf.SlIterI.Nil
import Derived.Shelf.SortM.Plain
import Derived.Shelf.SortM.SortNone
import Derived.Shelf.SlGeneric
import Derived.Shelf.AbstractIn
import Derived.Test.YtdmcdicphohlfaaGreatBg1
import Derived.Deep.LoopGhost
import Derived.Deep.DeepCutAuto
import Derived.Test.YtdmcdicphohlfaaGreatKi3
import Derived.Maps.AppendAt
import Derived.OwnWalk
import Derived.Test.YtdmcdicphohlfaaGreatDat
import Derived.Test.YtdmcdicphohlfaaGreatChecked

set_option linter.unusedVariables false
set_option linter.unusedSimpArgs false
namespace Go.Proofs.YtdmcdicphohlfaaGreat
open Go.RowKit Fx Go.Maps Go.Sort Go.Shelf

end Go.Proofs.YtdmcdicphohlfaaGreat

set_option linter.unusedVariables false
set_option linter.unusedSimpArgs false
namespace Go.Proofs.YtdmcdicphohlfaaGreat
open Go.RowKit Fx

end Go.Proofs.YtdmcdicphohlfaaGreat

set_option linter.unusedVariables false
set_option linter.unusedSimpArgs false
namespace Go.Proofs.YtdmcdicphohlfaaGreat
open Go.RowKit Fx

end Go.Proofs.YtdmcdicphohlfaaGreat

set_option linter.unusedVariables false
set_option linter.unusedSimpArgs false
namespace Go.Proofs.YtdmcdicphohlfaaGreat
open Go.RowKit Fx

end Go.Proofs.YtdmcdicphohlfaaGreat

set_option linter.unusedVariables false
set_option linter.unusedSimpArgs false
namespace Go.Proofs.YtdmcdicphohlfaaGreat
open Go.RowKit Fx

section
variable {P : Program} {SL E : TypeId} {sz B n : Nat} {v : Value} {xs : List Value} {w : World}
theorem owns_but {w' : World} {S : Nat → Prop} (h : w.ownsRow B E sz v n xs) (hb : But S w w') (hs : ∀ k, v.ownBlock = some k → ¬ S k) : w'.ownsRow B E sz v n xs := by
  obtain ⟨h1, h2 | ⟨g, cap, cur, rfl, hB, hh, r⟩⟩ := h
  · exact ⟨h1, .inl h2⟩
  · exact ⟨h1, .inr ⟨g, cap, cur, rfl, hB, (hb.block g (Array.getElem?_eq_some_iff.1 hh).1 (hs g rfl)).trans hh, r⟩⟩
end

end Go.Proofs.YtdmcdicphohlfaaGreat

set_option linter.unusedVariables false
set_option linter.unusedSimpArgs false
namespace Go.Proofs.YtdmcdicphohlfaaGreat
open Go.RowKit Fx

end Go.Proofs.YtdmcdicphohlfaaGreat

set_option linter.unusedVariables false
namespace Go.Proofs.YtdmcdicphohlfaaGreat
open Go.RowKit Fx

def bxc (f : Bx) : List Value := [.int .i64 f.x0, .int .i64 f.y0, .int .i64 f.x1, .int .i64 f.y1]
abbrev Bxa (w : World) (A : Option Addr) (l : List Bx) : Prop := Els w 4 (fun cs f => cs = bxc f) A l
theorem Bxa.to {w w' : World} {A : Option Addr} {l : List Bx} (h : Bxa w A l) (hb : Below w.heap.size w w') : Bxa w' A l := Els.to h (by decide) (fun _ _ h => h) hb
structure Opr where
  k : Int
  i : Int
  x0 : Int
  y0 : Int
  x1 : Int
  y1 : Int
  deriving DecidableEq, Inhabited
def opc (f : Opr) : List Value := [.int .i64 f.k, .int .i64 f.i, .int .i64 f.x0, .int .i64 f.y0, .int .i64 f.x1, .int .i64 f.y1]
abbrev Oprs (w : World) (A : Option Addr) (l : List Opr) : Prop := Els w 6 (fun cs f => cs = opc f ∧ i64k f.i) A l
theorem Oprs.to {w w' : World} {A : Option Addr} {l : List Opr} (h : Oprs w A l) (hb : Below w.heap.size w w') : Oprs w' A l := Els.to h (by decide) (fun _ _ h => h) hb
section
open Go.ChangeShapes Go.WideShapes Go.Deep
variable {H : Type} {enc : TypeId × Value → H} {w : World} {base B : Nat} {spare : Nat → Bool} {held : Bool}
theorem rd_intw20 {P : Program} {t : TypeId} {k : IntKind} {fuel : Nat} {cs : List Value} {x : DataW H × List MemPlace} (ht : P.underlying t = some (.int k)) (h : DataW.trod enc P w base spare held fuel t cs = some x) : ∃ n, cs = [.int k n] ∧ (Lit.int k n).wf = true := by
  obtain ⟨n, e, _, h2⟩ := DataW.trod_int ht h; exact ⟨n, e, h2⟩
theorem i64_of_wf {n : Int} (h : (Lit.int .i64 n).wf = true) : i64k n := by
  simp [Lit.wf, IntKind.min, IntKind.max, IntKind.signed, IntKind.bits] at h
  unfold i64k; omega

end

end Go.Proofs.YtdmcdicphohlfaaGreat
