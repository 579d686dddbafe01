/-
  No cell of these rows narrows 'for every input' (looked for: loops, veiled, ifaces, maps, wideKeys, modest, calm, conditions, laid).
  DERIVED. THE GIVEN ROWS OF THIS SEAT. 2 by the template 'for every input the law returns true; each argument reads behind the call as it read before'; 0 by the template 'total and deterministic' (their statements: YtihfmaaacekalaaGreatTotals.lean).
  GIVEN WITH THE SEED: the statements are not yours to turn. If you find one false, say at which input.
  Laid BY PROGRAM, IN A SANDBOX (cutbox-rows.mjs): the forced cells as the released guide's own fill.sh prints them over the translation b262278cde0e3fc2… (all of the seat's roots in one cut). By AI agents, Wed Nov 11 2026. No macro, syntax, notation, axiom, sorry.
-/
import Derived.Test.YtihfmaaacekalaaGreatChecked
import GoSem.Claim
import GoSem.ClaimJoined
import GoSem.ClaimMapViews
import Derived.JoinedTies
import Derived.KernelRfl
namespace Go.Proofs.YtihfmaaacekalaaGreat
/- THE CELL 'sum', in the pinned program and in every row, IS THE sha256 OF THE DUMP (.gsa) THAT YtihfmaaacekalaaGreatProg.lean LOADS. Nothing in Lean hashes anything: it is a label: what it is worth is what the hold of that sum in a sandbox is worth. -/
noncomputable def Tryz.pinned : Pinned := { name := "ytihfmaaacekalaagreat", sum := "b262278cde0e3fc267154c6c2d7c1d5f513f5f7198aba205257c623ec43c9151", checked := Tryz.checked }
namespace Rows
def none {H : Type} : Left H := { results := [], args := [] }

/-- 'caromlaw12.ShapeGeometryExact': WHATEVER THE INPUT: true; the input reads as it did. -/
def shapeGeometryExactSpec : ChangeSpec := { name := "shapeGeometryExact", fn := fun _ => fun
  | [d1, d2, d3] => { results := [.lit (.bool true)], args := [d1, d2, d3] }
  | _ => none }
def shapeGeometryExactRow : OpenClaim := { program := "ytihfmaaacekalaagreat", sum := "b262278cde0e3fc267154c6c2d7c1d5f513f5f7198aba205257c623ec43c9151", func := "carom/caromlaw12.ShapeGeometryExact", spec := "shapeGeometryExact", apart := false }
def ShapeGeometryExactSaid : Prop := shapeGeometryExactRow.holds Tryz.pinned (OpenSpec.ofChange shapeGeometryExactSpec)

/-- ITS FALSE NEIGHBOUR: 'it returns false'. Refute it at one input. -/
def shapeGeometryExactWrong : ChangeSpec := { name := "shapeGeometryExact", fn := fun _ => fun
  | [d1, d2, d3] => { results := [.lit (.bool false)], args := [d1, d2, d3] }
  | _ => none }
def ShapeGeometryExactWrongFalsely : Prop := shapeGeometryExactRow.holds Tryz.pinned (OpenSpec.ofChange shapeGeometryExactWrong)

/-- 'caromlaw12.ShapeContainsExact': WHATEVER THE INPUT: true; the input reads as it did. -/
def shapeContainsExactSpec : ChangeSpec := { name := "shapeContainsExact", fn := fun _ => fun
  | [d1, d2, d3] => { results := [.lit (.bool true)], args := [d1, d2, d3] }
  | _ => none }
def shapeContainsExactRow : OpenClaim := { program := "ytihfmaaacekalaagreat", sum := "b262278cde0e3fc267154c6c2d7c1d5f513f5f7198aba205257c623ec43c9151", func := "carom/caromlaw12.ShapeContainsExact", spec := "shapeContainsExact", apart := false }
def ShapeContainsExactSaid : Prop := shapeContainsExactRow.holds Tryz.pinned (OpenSpec.ofChange shapeContainsExactSpec)

/-- ITS FALSE NEIGHBOUR: 'it returns false'. Refute it at one input. -/
def shapeContainsExactWrong : ChangeSpec := { name := "shapeContainsExact", fn := fun _ => fun
  | [d1, d2, d3] => { results := [.lit (.bool false)], args := [d1, d2, d3] }
  | _ => none }
def ShapeContainsExactWrongFalsely : Prop := shapeContainsExactRow.holds Tryz.pinned (OpenSpec.ofChange shapeContainsExactWrong)

/- THE SECOND FORM. 'bulk': how many values and letters a reading holds, each counted each time it is reached (what is shared counts as often as it is met; a slice's spare places count too). A statement '..UptoSaid' is the law's where the arguments, and the package variables that the reading takes, are together of bulk at most 1048576: NARROWER than '..Said'. Prove '..Said' where nothing that the law and all that it calls make is longer than what came in: it says more and counts as full. Else prove '..UptoSaid'. A law counts once. -/
mutual
def uptoBulk {H : Type} : DataW H → Nat
  | .lit (.string bytes) => bytes.length + 1
  | .lit _ => 1
  | .nil => 1
  | .ptr d => uptoBulk d + 1
  | .slice elems spare => uptoBulkAll elems + uptoBulkAll spare + 1
  | .agg parts => uptoBulkAll parts + 1
  | .iface _ d => uptoBulk d + 1
  | .map entries => uptoBulkEntries entries + 1
  | .held _ => 1
def uptoBulkAll {H : Type} : List (DataW H) → Nat
  | [] => 0
  | d :: r => uptoBulk d + uptoBulkAll r
def uptoBulkEntries {H : Type} : List (Lit × DataW H) → Nat
  | [] => 0
  | x :: r => uptoBulkEntry x + uptoBulkEntries r
def uptoBulkEntry {H : Type} : Lit × DataW H → Nat
  | (.string bytes, d) => bytes.length + uptoBulk d + 1
  | (_, d) => uptoBulk d + 1
 end
def uptoSmall : (H : Type) → List (DataW H) → Bool := fun _ ds => decide (uptoBulkAll ds ≤ 1048576)
def OpenSpec.upto (s : _root_.Go.ChangeSpec) : _root_.Go.OpenSpec := { _root_.Go.OpenSpec.ofChange s with cond := some uptoSmall }

/-- 'caromlaw12.ShapeGeometryExact', WHERE WHAT IT READS IS OF BULK AT MOST 1048576: true; the input reads as it did. -/
def shapeGeometryExactUptoRow : OpenClaim := { program := "ytihfmaaacekalaagreat", sum := "b262278cde0e3fc267154c6c2d7c1d5f513f5f7198aba205257c623ec43c9151", func := "carom/caromlaw12.ShapeGeometryExact", spec := "shapeGeometryExact", apart := false, narrowed := true }
def ShapeGeometryExactUptoSaid : Prop := shapeGeometryExactUptoRow.holds Tryz.pinned (OpenSpec.upto shapeGeometryExactSpec)

/-- 'caromlaw12.ShapeContainsExact', WHERE WHAT IT READS IS OF BULK AT MOST 1048576: true; the input reads as it did. -/
def shapeContainsExactUptoRow : OpenClaim := { program := "ytihfmaaacekalaagreat", sum := "b262278cde0e3fc267154c6c2d7c1d5f513f5f7198aba205257c623ec43c9151", func := "carom/caromlaw12.ShapeContainsExact", spec := "shapeContainsExact", apart := false, narrowed := true }
def ShapeContainsExactUptoSaid : Prop := shapeContainsExactUptoRow.holds Tryz.pinned (OpenSpec.upto shapeContainsExactSpec)

end Rows
end Go.Proofs.YtihfmaaacekalaaGreat
