/-
  No cell of these rows narrows 'for every input' (looked for: loops, veiled, ifaces, maps, wideKeys, modest, calm, conditions, laid).
  DERIVED. THE GIVEN ROWS OF THIS SEAT. 4 by the template 'for every input the law returns true; each argument reads behind the call as it read before'; 0 by the template 'total and deterministic' (their statements: YtpdhfhcfjdnlpaaTotals.lean).
  GIVEN WITH THE SEED: the statements are not yours to turn. If you find one false, say at which input.
  Laid BY PROGRAM, IN A SANDBOX (cutbox-rows.mjs): the forced cells as the released guide's own fill.sh prints them over the translation c943d9b2ec7e6065… (all of the seat's roots in one cut). By AI agents, Wed Nov 11 2026. No macro, syntax, notation, axiom, sorry.
-/
import Derived.Test.YtpdhfhcfjdnlpaaChecked
import GoSem.Claim
import GoSem.ClaimJoined
import GoSem.ClaimMapViews
import Derived.JoinedTies
import Derived.KernelRfl
namespace Go.Proofs.Ytpdhfhcfjdnlpaa
/- THE CELL 'sum', in the pinned program and in every row, IS THE sha256 OF THE DUMP (.gsa) THAT YtpdhfhcfjdnlpaaProg.lean LOADS. Nothing in Lean hashes anything: it is a label: what it is worth is what the hold of that sum in a sandbox is worth. -/
noncomputable def Try.pinned : Pinned := { name := "ytpdhfhcfjdnlpaa", sum := "c943d9b2ec7e6065b0b90fa4c8220ea52ea31a570184ea4bd5634e1addc65a80", checked := Try.checked }
namespace Rows
def none {H : Type} : Left H := { results := [], args := [] }

/-- 'caromlaw18.RaycastCircleExact': WHATEVER THE INPUT: true; the input reads as it did. -/
def raycastCircleExactSpec : ChangeSpec := { name := "raycastCircleExact", fn := fun _ => fun
  | [d1, d2, d3] => { results := [.lit (.bool true)], args := [d1, d2, d3] }
  | _ => none }
def raycastCircleExactRow : OpenClaim := { program := "ytpdhfhcfjdnlpaa", sum := "c943d9b2ec7e6065b0b90fa4c8220ea52ea31a570184ea4bd5634e1addc65a80", func := "carom/caromlaw18.RaycastCircleExact", spec := "raycastCircleExact", apart := false }
def RaycastCircleExactSaid : Prop := raycastCircleExactRow.holds Try.pinned (OpenSpec.ofChange raycastCircleExactSpec)

/-- ITS FALSE NEIGHBOUR: 'it returns false'. Refute it at one input. -/
def raycastCircleExactWrong : ChangeSpec := { name := "raycastCircleExact", fn := fun _ => fun
  | [d1, d2, d3] => { results := [.lit (.bool false)], args := [d1, d2, d3] }
  | _ => none }
def RaycastCircleExactWrongFalsely : Prop := raycastCircleExactRow.holds Try.pinned (OpenSpec.ofChange raycastCircleExactWrong)

/-- 'caromlaw18.RaycastPolygonExact': WHATEVER THE INPUT: true; the input reads as it did. -/
def raycastPolygonExactSpec : ChangeSpec := { name := "raycastPolygonExact", fn := fun _ => fun
  | [d1, d2] => { results := [.lit (.bool true)], args := [d1, d2] }
  | _ => none }
def raycastPolygonExactRow : OpenClaim := { program := "ytpdhfhcfjdnlpaa", sum := "c943d9b2ec7e6065b0b90fa4c8220ea52ea31a570184ea4bd5634e1addc65a80", func := "carom/caromlaw18.RaycastPolygonExact", spec := "raycastPolygonExact", apart := false }
def RaycastPolygonExactSaid : Prop := raycastPolygonExactRow.holds Try.pinned (OpenSpec.ofChange raycastPolygonExactSpec)

/-- ITS FALSE NEIGHBOUR: 'it returns false'. Refute it at one input. -/
def raycastPolygonExactWrong : ChangeSpec := { name := "raycastPolygonExact", fn := fun _ => fun
  | [d1, d2] => { results := [.lit (.bool false)], args := [d1, d2] }
  | _ => none }
def RaycastPolygonExactWrongFalsely : Prop := raycastPolygonExactRow.holds Try.pinned (OpenSpec.ofChange raycastPolygonExactWrong)

/-- 'caromlaw18.RaycastFromInside': WHATEVER THE INPUT: true; the input reads as it did. -/
def raycastFromInsideSpec : ChangeSpec := { name := "raycastFromInside", fn := fun _ => fun
  | [d1, d2, d3] => { results := [.lit (.bool true)], args := [d1, d2, d3] }
  | _ => none }
def raycastFromInsideRow : OpenClaim := { program := "ytpdhfhcfjdnlpaa", sum := "c943d9b2ec7e6065b0b90fa4c8220ea52ea31a570184ea4bd5634e1addc65a80", func := "carom/caromlaw18.RaycastFromInside", spec := "raycastFromInside", apart := false }
def RaycastFromInsideSaid : Prop := raycastFromInsideRow.holds Try.pinned (OpenSpec.ofChange raycastFromInsideSpec)

/-- ITS FALSE NEIGHBOUR: 'it returns false'. Refute it at one input. -/
def raycastFromInsideWrong : ChangeSpec := { name := "raycastFromInside", fn := fun _ => fun
  | [d1, d2, d3] => { results := [.lit (.bool false)], args := [d1, d2, d3] }
  | _ => none }
def RaycastFromInsideWrongFalsely : Prop := raycastFromInsideRow.holds Try.pinned (OpenSpec.ofChange raycastFromInsideWrong)

/-- 'caromlaw18.RaycastZeroLength': WHATEVER THE INPUT: true; the input reads as it did. -/
def raycastZeroLengthSpec : ChangeSpec := { name := "raycastZeroLength", fn := fun _ => fun
  | [d1, d2, d3] => { results := [.lit (.bool true)], args := [d1, d2, d3] }
  | _ => none }
def raycastZeroLengthRow : OpenClaim := { program := "ytpdhfhcfjdnlpaa", sum := "c943d9b2ec7e6065b0b90fa4c8220ea52ea31a570184ea4bd5634e1addc65a80", func := "carom/caromlaw18.RaycastZeroLength", spec := "raycastZeroLength", apart := false }
def RaycastZeroLengthSaid : Prop := raycastZeroLengthRow.holds Try.pinned (OpenSpec.ofChange raycastZeroLengthSpec)

/-- ITS FALSE NEIGHBOUR: 'it returns false'. Refute it at one input. -/
def raycastZeroLengthWrong : ChangeSpec := { name := "raycastZeroLength", fn := fun _ => fun
  | [d1, d2, d3] => { results := [.lit (.bool false)], args := [d1, d2, d3] }
  | _ => none }
def RaycastZeroLengthWrongFalsely : Prop := raycastZeroLengthRow.holds Try.pinned (OpenSpec.ofChange raycastZeroLengthWrong)

/- THE SECOND FORM. 'bulk': how many values and letters a reading holds, each counted each time it is reached (what is shared counts as often as it is met; a slice's spare places count too). A statement '..UptoSaid' is the law's where the arguments, and the package variables that the reading takes, are together of bulk at most 1048576: NARROWER than '..Said'. Prove '..Said' where nothing that the law and all that it calls make is longer than what came in: it says more and counts as full. Else prove '..UptoSaid'. A law counts once. -/
mutual
def uptoBulk {H : Type} : DataW H → Nat
  | .lit (.string bytes) => bytes.length + 1
  | .lit _ => 1
  | .nil => 1
  | .ptr d => uptoBulk d + 1
  | .slice elems spare => uptoBulkAll elems + uptoBulkAll spare + 1
  | .agg parts => uptoBulkAll parts + 1
  | .iface _ d => uptoBulk d + 1
  | .map entries => uptoBulkEntries entries + 1
  | .held _ => 1
def uptoBulkAll {H : Type} : List (DataW H) → Nat
  | [] => 0
  | d :: r => uptoBulk d + uptoBulkAll r
def uptoBulkEntries {H : Type} : List (Lit × DataW H) → Nat
  | [] => 0
  | x :: r => uptoBulkEntry x + uptoBulkEntries r
def uptoBulkEntry {H : Type} : Lit × DataW H → Nat
  | (.string bytes, d) => bytes.length + uptoBulk d + 1
  | (_, d) => uptoBulk d + 1
 end
def uptoSmall : (H : Type) → List (DataW H) → Bool := fun _ ds => decide (uptoBulkAll ds ≤ 1048576)
def OpenSpec.upto (s : _root_.Go.ChangeSpec) : _root_.Go.OpenSpec := { _root_.Go.OpenSpec.ofChange s with cond := some uptoSmall }

/-- 'caromlaw18.RaycastCircleExact', WHERE WHAT IT READS IS OF BULK AT MOST 1048576: true; the input reads as it did. -/
def raycastCircleExactUptoRow : OpenClaim := { program := "ytpdhfhcfjdnlpaa", sum := "c943d9b2ec7e6065b0b90fa4c8220ea52ea31a570184ea4bd5634e1addc65a80", func := "carom/caromlaw18.RaycastCircleExact", spec := "raycastCircleExact", apart := false, narrowed := true }
def RaycastCircleExactUptoSaid : Prop := raycastCircleExactUptoRow.holds Try.pinned (OpenSpec.upto raycastCircleExactSpec)

/-- 'caromlaw18.RaycastPolygonExact', WHERE WHAT IT READS IS OF BULK AT MOST 1048576: true; the input reads as it did. -/
def raycastPolygonExactUptoRow : OpenClaim := { program := "ytpdhfhcfjdnlpaa", sum := "c943d9b2ec7e6065b0b90fa4c8220ea52ea31a570184ea4bd5634e1addc65a80", func := "carom/caromlaw18.RaycastPolygonExact", spec := "raycastPolygonExact", apart := false, narrowed := true }
def RaycastPolygonExactUptoSaid : Prop := raycastPolygonExactUptoRow.holds Try.pinned (OpenSpec.upto raycastPolygonExactSpec)

/-- 'caromlaw18.RaycastFromInside', WHERE WHAT IT READS IS OF BULK AT MOST 1048576: true; the input reads as it did. -/
def raycastFromInsideUptoRow : OpenClaim := { program := "ytpdhfhcfjdnlpaa", sum := "c943d9b2ec7e6065b0b90fa4c8220ea52ea31a570184ea4bd5634e1addc65a80", func := "carom/caromlaw18.RaycastFromInside", spec := "raycastFromInside", apart := false, narrowed := true }
def RaycastFromInsideUptoSaid : Prop := raycastFromInsideUptoRow.holds Try.pinned (OpenSpec.upto raycastFromInsideSpec)

/-- 'caromlaw18.RaycastZeroLength', WHERE WHAT IT READS IS OF BULK AT MOST 1048576: true; the input reads as it did. -/
def raycastZeroLengthUptoRow : OpenClaim := { program := "ytpdhfhcfjdnlpaa", sum := "c943d9b2ec7e6065b0b90fa4c8220ea52ea31a570184ea4bd5634e1addc65a80", func := "carom/caromlaw18.RaycastZeroLength", spec := "raycastZeroLength", apart := false, narrowed := true }
def RaycastZeroLengthUptoSaid : Prop := raycastZeroLengthUptoRow.holds Try.pinned (OpenSpec.upto raycastZeroLengthSpec)

end Rows
end Go.Proofs.Ytpdhfhcfjdnlpaa
