/-
  No cell of these rows narrows 'for every input' (looked for: loops, veiled, ifaces, maps, wideKeys, modest, calm, conditions, laid).
  DERIVED. THE GIVEN ROWS OF THIS SEAT. 3 by the template 'for every input the law returns true; each argument reads behind the call as it read before'; 0 by the template 'total and deterministic' (their statements: YtiecpebckmihgaaTotals.lean).
  GIVEN WITH THE SEED: the statements are not yours to turn. If you find one false, say at which input.
  Laid BY PROGRAM, IN A SANDBOX (cutbox-rows.mjs): the forced cells as the released guide's own fill.sh prints them over the translation 3dd84155f98df185… (all of the seat's roots in one cut). By AI agents, Wed Nov 11 2026. No macro, syntax, notation, axiom, sorry.
-/
import Derived.Test.YtiecpebckmihgaaChecked
import GoSem.Claim
import GoSem.ClaimJoined
import GoSem.ClaimMapViews
import Derived.JoinedTies
import Derived.KernelRfl
namespace Go.Proofs.Ytiecpebckmihgaa
/- THE CELL 'sum', in the pinned program and in every row, IS THE sha256 OF THE DUMP (.gsa) THAT YtiecpebckmihgaaProg.lean LOADS. Nothing in Lean hashes anything: it is a label: what it is worth is what the hold of that sum in a sandbox is worth. -/
noncomputable def Try.pinned : Pinned := { name := "ytiecpebckmihgaa", sum := "3dd84155f98df1852d3ec61bfc22820cb2ad2a4b88d91b7908fb6db03401d03c", checked := Try.checked }
namespace Rows
def none {H : Type} : Left H := { results := [], args := [] }

/-- 'caromlaw16.ManifoldFlip': WHATEVER THE INPUT: true; the input reads as it did. -/
def manifoldFlipSpec : ChangeSpec := { name := "manifoldFlip", fn := fun _ => fun
  | [d1, d2] => { results := [.lit (.bool true)], args := [d1, d2] }
  | _ => none }
def manifoldFlipRow : OpenClaim := { program := "ytiecpebckmihgaa", sum := "3dd84155f98df1852d3ec61bfc22820cb2ad2a4b88d91b7908fb6db03401d03c", func := "carom/caromlaw16.ManifoldFlip", spec := "manifoldFlip", unfollowed := true, recurses := true, apart := false }
def ManifoldFlipSaid : Prop := manifoldFlipRow.holds Try.pinned (OpenSpec.ofChange manifoldFlipSpec)

/-- ITS FALSE NEIGHBOUR: 'it returns false'. Refute it at one input. -/
def manifoldFlipWrong : ChangeSpec := { name := "manifoldFlip", fn := fun _ => fun
  | [d1, d2] => { results := [.lit (.bool false)], args := [d1, d2] }
  | _ => none }
def ManifoldFlipWrongFalsely : Prop := manifoldFlipRow.holds Try.pinned (OpenSpec.ofChange manifoldFlipWrong)

/-- 'caromlaw16.ManifoldCirclePolygon': WHATEVER THE INPUT: true; the input reads as it did. -/
def manifoldCirclePolygonSpec : ChangeSpec := { name := "manifoldCirclePolygon", fn := fun _ => fun
  | [d1, d2, d3, d4] => { results := [.lit (.bool true)], args := [d1, d2, d3, d4] }
  | _ => none }
def manifoldCirclePolygonRow : OpenClaim := { program := "ytiecpebckmihgaa", sum := "3dd84155f98df1852d3ec61bfc22820cb2ad2a4b88d91b7908fb6db03401d03c", func := "carom/caromlaw16.ManifoldCirclePolygon", spec := "manifoldCirclePolygon", unfollowed := true, recurses := true, apart := false }
def ManifoldCirclePolygonSaid : Prop := manifoldCirclePolygonRow.holds Try.pinned (OpenSpec.ofChange manifoldCirclePolygonSpec)

/-- ITS FALSE NEIGHBOUR: 'it returns false'. Refute it at one input. -/
def manifoldCirclePolygonWrong : ChangeSpec := { name := "manifoldCirclePolygon", fn := fun _ => fun
  | [d1, d2, d3, d4] => { results := [.lit (.bool false)], args := [d1, d2, d3, d4] }
  | _ => none }
def ManifoldCirclePolygonWrongFalsely : Prop := manifoldCirclePolygonRow.holds Try.pinned (OpenSpec.ofChange manifoldCirclePolygonWrong)

/-- 'caromlaw16.ManifoldCircles': WHATEVER THE INPUT: true; the input reads as it did. -/
def manifoldCirclesSpec : ChangeSpec := { name := "manifoldCircles", fn := fun _ => fun
  | [d1, d2, d3, d4] => { results := [.lit (.bool true)], args := [d1, d2, d3, d4] }
  | _ => none }
def manifoldCirclesRow : OpenClaim := { program := "ytiecpebckmihgaa", sum := "3dd84155f98df1852d3ec61bfc22820cb2ad2a4b88d91b7908fb6db03401d03c", func := "carom/caromlaw16.ManifoldCircles", spec := "manifoldCircles", unfollowed := true, recurses := true, apart := false }
def ManifoldCirclesSaid : Prop := manifoldCirclesRow.holds Try.pinned (OpenSpec.ofChange manifoldCirclesSpec)

/-- ITS FALSE NEIGHBOUR: 'it returns false'. Refute it at one input. -/
def manifoldCirclesWrong : ChangeSpec := { name := "manifoldCircles", fn := fun _ => fun
  | [d1, d2, d3, d4] => { results := [.lit (.bool false)], args := [d1, d2, d3, d4] }
  | _ => none }
def ManifoldCirclesWrongFalsely : Prop := manifoldCirclesRow.holds Try.pinned (OpenSpec.ofChange manifoldCirclesWrong)

/- THE SECOND FORM. 'bulk': how many values and letters a reading holds, each counted each time it is reached (what is shared counts as often as it is met; a slice's spare places count too). A statement '..UptoSaid' is the law's where the arguments, and the package variables that the reading takes, are together of bulk at most 1048576: NARROWER than '..Said'. Prove '..Said' where nothing that the law and all that it calls make is longer than what came in: it says more and counts as full. Else prove '..UptoSaid'. A law counts once. -/
mutual
def uptoBulk {H : Type} : DataW H → Nat
  | .lit (.string bytes) => bytes.length + 1
  | .lit _ => 1
  | .nil => 1
  | .ptr d => uptoBulk d + 1
  | .slice elems spare => uptoBulkAll elems + uptoBulkAll spare + 1
  | .agg parts => uptoBulkAll parts + 1
  | .iface _ d => uptoBulk d + 1
  | .map entries => uptoBulkEntries entries + 1
  | .held _ => 1
def uptoBulkAll {H : Type} : List (DataW H) → Nat
  | [] => 0
  | d :: r => uptoBulk d + uptoBulkAll r
def uptoBulkEntries {H : Type} : List (Lit × DataW H) → Nat
  | [] => 0
  | x :: r => uptoBulkEntry x + uptoBulkEntries r
def uptoBulkEntry {H : Type} : Lit × DataW H → Nat
  | (.string bytes, d) => bytes.length + uptoBulk d + 1
  | (_, d) => uptoBulk d + 1
 end
def uptoSmall : (H : Type) → List (DataW H) → Bool := fun _ ds => decide (uptoBulkAll ds ≤ 1048576)
def OpenSpec.upto (s : _root_.Go.ChangeSpec) : _root_.Go.OpenSpec := { _root_.Go.OpenSpec.ofChange s with cond := some uptoSmall }

/-- 'caromlaw16.ManifoldFlip', WHERE WHAT IT READS IS OF BULK AT MOST 1048576: true; the input reads as it did. -/
def manifoldFlipUptoRow : OpenClaim := { program := "ytiecpebckmihgaa", sum := "3dd84155f98df1852d3ec61bfc22820cb2ad2a4b88d91b7908fb6db03401d03c", func := "carom/caromlaw16.ManifoldFlip", spec := "manifoldFlip", unfollowed := true, recurses := true, apart := false, narrowed := true }
def ManifoldFlipUptoSaid : Prop := manifoldFlipUptoRow.holds Try.pinned (OpenSpec.upto manifoldFlipSpec)

/-- 'caromlaw16.ManifoldCirclePolygon', WHERE WHAT IT READS IS OF BULK AT MOST 1048576: true; the input reads as it did. -/
def manifoldCirclePolygonUptoRow : OpenClaim := { program := "ytiecpebckmihgaa", sum := "3dd84155f98df1852d3ec61bfc22820cb2ad2a4b88d91b7908fb6db03401d03c", func := "carom/caromlaw16.ManifoldCirclePolygon", spec := "manifoldCirclePolygon", unfollowed := true, recurses := true, apart := false, narrowed := true }
def ManifoldCirclePolygonUptoSaid : Prop := manifoldCirclePolygonUptoRow.holds Try.pinned (OpenSpec.upto manifoldCirclePolygonSpec)

/-- 'caromlaw16.ManifoldCircles', WHERE WHAT IT READS IS OF BULK AT MOST 1048576: true; the input reads as it did. -/
def manifoldCirclesUptoRow : OpenClaim := { program := "ytiecpebckmihgaa", sum := "3dd84155f98df1852d3ec61bfc22820cb2ad2a4b88d91b7908fb6db03401d03c", func := "carom/caromlaw16.ManifoldCircles", spec := "manifoldCircles", unfollowed := true, recurses := true, apart := false, narrowed := true }
def ManifoldCirclesUptoSaid : Prop := manifoldCirclesUptoRow.holds Try.pinned (OpenSpec.upto manifoldCirclesSpec)

end Rows
end Go.Proofs.Ytiecpebckmihgaa
