/-
  No cell of these rows narrows 'for every input' (looked for: loops, veiled, ifaces, maps, wideKeys, modest, calm, conditions, laid).
  DERIVED. THE GIVEN ROWS OF THIS SEAT. 5 by the template 'for every input the law returns true; each argument reads behind the call as it read before'; 0 by the template 'total and deterministic' (their statements: YtiahkaonbkmffaaTotals.lean).
  GIVEN WITH THE SEED: the statements are not yours to turn. If you find one false, say at which input.
  Laid BY PROGRAM, IN A SANDBOX (cutbox-rows.mjs): the forced cells as the released guide's own fill.sh prints them over the translation d3fb78f7f6ef1b44… (all of the seat's roots in one cut). By AI agents, Wed Nov 11 2026. No macro, syntax, notation, axiom, sorry.
-/
import Derived.Test.YtiahkaonbkmffaaChecked
import GoSem.Claim
import GoSem.ClaimJoined
import GoSem.ClaimMapViews
import Derived.JoinedTies
import Derived.KernelRfl
namespace Go.Proofs.Ytiahkaonbkmffaa
/- THE CELL 'sum', in the pinned program and in every row, IS THE sha256 OF THE DUMP (.gsa) THAT YtiahkaonbkmffaaProg.lean LOADS. Nothing in Lean hashes anything: it is a label: what it is worth is what the hold of that sum in a sandbox is worth. -/
noncomputable def Try.pinned : Pinned := { name := "ytiahkaonbkmffaa", sum := "d3fb78f7f6ef1b44967e364a18f19899264cbe6963ddd869c27269001622b78e", checked := Try.checked }
namespace Rows
def none {H : Type} : Left H := { results := [], args := [] }

/-- 'caromlaw15.ClipKeeps': WHATEVER THE INPUT: true; the input reads as it did. -/
def clipKeepsSpec : ChangeSpec := { name := "clipKeeps", fn := fun _ => fun
  | [d1, d2, d3] => { results := [.lit (.bool true)], args := [d1, d2, d3] }
  | _ => none }
def clipKeepsRow : OpenClaim := { program := "ytiahkaonbkmffaa", sum := "d3fb78f7f6ef1b44967e364a18f19899264cbe6963ddd869c27269001622b78e", func := "carom/caromlaw15.ClipKeeps", spec := "clipKeeps", apart := false }
def ClipKeepsSaid : Prop := clipKeepsRow.holds Try.pinned (OpenSpec.ofChange clipKeepsSpec)

/-- ITS FALSE NEIGHBOUR: 'it returns false'. Refute it at one input. -/
def clipKeepsWrong : ChangeSpec := { name := "clipKeeps", fn := fun _ => fun
  | [d1, d2, d3] => { results := [.lit (.bool false)], args := [d1, d2, d3] }
  | _ => none }
def ClipKeepsWrongFalsely : Prop := clipKeepsRow.holds Try.pinned (OpenSpec.ofChange clipKeepsWrong)

/-- 'caromlaw15.ClipHalfPlaneExact': WHATEVER THE INPUT: true; the input reads as it did. -/
def clipHalfPlaneExactSpec : ChangeSpec := { name := "clipHalfPlaneExact", fn := fun _ => fun
  | [d1, d2, d3] => { results := [.lit (.bool true)], args := [d1, d2, d3] }
  | _ => none }
def clipHalfPlaneExactRow : OpenClaim := { program := "ytiahkaonbkmffaa", sum := "d3fb78f7f6ef1b44967e364a18f19899264cbe6963ddd869c27269001622b78e", func := "carom/caromlaw15.ClipHalfPlaneExact", spec := "clipHalfPlaneExact", apart := false }
def ClipHalfPlaneExactSaid : Prop := clipHalfPlaneExactRow.holds Try.pinned (OpenSpec.ofChange clipHalfPlaneExactSpec)

/-- ITS FALSE NEIGHBOUR: 'it returns false'. Refute it at one input. -/
def clipHalfPlaneExactWrong : ChangeSpec := { name := "clipHalfPlaneExact", fn := fun _ => fun
  | [d1, d2, d3] => { results := [.lit (.bool false)], args := [d1, d2, d3] }
  | _ => none }
def ClipHalfPlaneExactWrongFalsely : Prop := clipHalfPlaneExactRow.holds Try.pinned (OpenSpec.ofChange clipHalfPlaneExactWrong)

/-- 'caromlaw15.ClipVertexIDs': WHATEVER THE INPUT: true; the input reads as it did. -/
def clipVertexIDsSpec : ChangeSpec := { name := "clipVertexIDs", fn := fun _ => fun
  | [d1, d2, d3] => { results := [.lit (.bool true)], args := [d1, d2, d3] }
  | _ => none }
def clipVertexIDsRow : OpenClaim := { program := "ytiahkaonbkmffaa", sum := "d3fb78f7f6ef1b44967e364a18f19899264cbe6963ddd869c27269001622b78e", func := "carom/caromlaw15.ClipVertexIDs", spec := "clipVertexIDs", apart := false }
def ClipVertexIDsSaid : Prop := clipVertexIDsRow.holds Try.pinned (OpenSpec.ofChange clipVertexIDsSpec)

/-- ITS FALSE NEIGHBOUR: 'it returns false'. Refute it at one input. -/
def clipVertexIDsWrong : ChangeSpec := { name := "clipVertexIDs", fn := fun _ => fun
  | [d1, d2, d3] => { results := [.lit (.bool false)], args := [d1, d2, d3] }
  | _ => none }
def ClipVertexIDsWrongFalsely : Prop := clipVertexIDsRow.holds Try.pinned (OpenSpec.ofChange clipVertexIDsWrong)

/-- 'caromlaw15.ClipSymmetric': WHATEVER THE INPUT: true; the input reads as it did. -/
def clipSymmetricSpec : ChangeSpec := { name := "clipSymmetric", fn := fun _ => fun
  | [d1, d2, d3] => { results := [.lit (.bool true)], args := [d1, d2, d3] }
  | _ => none }
def clipSymmetricRow : OpenClaim := { program := "ytiahkaonbkmffaa", sum := "d3fb78f7f6ef1b44967e364a18f19899264cbe6963ddd869c27269001622b78e", func := "carom/caromlaw15.ClipSymmetric", spec := "clipSymmetric", apart := false }
def ClipSymmetricSaid : Prop := clipSymmetricRow.holds Try.pinned (OpenSpec.ofChange clipSymmetricSpec)

/-- ITS FALSE NEIGHBOUR: 'it returns false'. Refute it at one input. -/
def clipSymmetricWrong : ChangeSpec := { name := "clipSymmetric", fn := fun _ => fun
  | [d1, d2, d3] => { results := [.lit (.bool false)], args := [d1, d2, d3] }
  | _ => none }
def ClipSymmetricWrongFalsely : Prop := clipSymmetricRow.holds Try.pinned (OpenSpec.ofChange clipSymmetricWrong)

/-- 'caromlaw15.ClipOutside': WHATEVER THE INPUT: true; the input reads as it did. -/
def clipOutsideSpec : ChangeSpec := { name := "clipOutside", fn := fun _ => fun
  | [d1, d2, d3] => { results := [.lit (.bool true)], args := [d1, d2, d3] }
  | _ => none }
def clipOutsideRow : OpenClaim := { program := "ytiahkaonbkmffaa", sum := "d3fb78f7f6ef1b44967e364a18f19899264cbe6963ddd869c27269001622b78e", func := "carom/caromlaw15.ClipOutside", spec := "clipOutside", apart := false }
def ClipOutsideSaid : Prop := clipOutsideRow.holds Try.pinned (OpenSpec.ofChange clipOutsideSpec)

/-- ITS FALSE NEIGHBOUR: 'it returns false'. Refute it at one input. -/
def clipOutsideWrong : ChangeSpec := { name := "clipOutside", fn := fun _ => fun
  | [d1, d2, d3] => { results := [.lit (.bool false)], args := [d1, d2, d3] }
  | _ => none }
def ClipOutsideWrongFalsely : Prop := clipOutsideRow.holds Try.pinned (OpenSpec.ofChange clipOutsideWrong)

/- THE SECOND FORM. 'bulk': how many values and letters a reading holds, each counted each time it is reached (what is shared counts as often as it is met; a slice's spare places count too). A statement '..UptoSaid' is the law's where the arguments, and the package variables that the reading takes, are together of bulk at most 1048576: NARROWER than '..Said'. Prove '..Said' where nothing that the law and all that it calls make is longer than what came in: it says more and counts as full. Else prove '..UptoSaid'. A law counts once. -/
mutual
def uptoBulk {H : Type} : DataW H → Nat
  | .lit (.string bytes) => bytes.length + 1
  | .lit _ => 1
  | .nil => 1
  | .ptr d => uptoBulk d + 1
  | .slice elems spare => uptoBulkAll elems + uptoBulkAll spare + 1
  | .agg parts => uptoBulkAll parts + 1
  | .iface _ d => uptoBulk d + 1
  | .map entries => uptoBulkEntries entries + 1
  | .held _ => 1
def uptoBulkAll {H : Type} : List (DataW H) → Nat
  | [] => 0
  | d :: r => uptoBulk d + uptoBulkAll r
def uptoBulkEntries {H : Type} : List (Lit × DataW H) → Nat
  | [] => 0
  | x :: r => uptoBulkEntry x + uptoBulkEntries r
def uptoBulkEntry {H : Type} : Lit × DataW H → Nat
  | (.string bytes, d) => bytes.length + uptoBulk d + 1
  | (_, d) => uptoBulk d + 1
 end
def uptoSmall : (H : Type) → List (DataW H) → Bool := fun _ ds => decide (uptoBulkAll ds ≤ 1048576)
def OpenSpec.upto (s : _root_.Go.ChangeSpec) : _root_.Go.OpenSpec := { _root_.Go.OpenSpec.ofChange s with cond := some uptoSmall }

/-- 'caromlaw15.ClipKeeps', WHERE WHAT IT READS IS OF BULK AT MOST 1048576: true; the input reads as it did. -/
def clipKeepsUptoRow : OpenClaim := { program := "ytiahkaonbkmffaa", sum := "d3fb78f7f6ef1b44967e364a18f19899264cbe6963ddd869c27269001622b78e", func := "carom/caromlaw15.ClipKeeps", spec := "clipKeeps", apart := false, narrowed := true }
def ClipKeepsUptoSaid : Prop := clipKeepsUptoRow.holds Try.pinned (OpenSpec.upto clipKeepsSpec)

/-- 'caromlaw15.ClipHalfPlaneExact', WHERE WHAT IT READS IS OF BULK AT MOST 1048576: true; the input reads as it did. -/
def clipHalfPlaneExactUptoRow : OpenClaim := { program := "ytiahkaonbkmffaa", sum := "d3fb78f7f6ef1b44967e364a18f19899264cbe6963ddd869c27269001622b78e", func := "carom/caromlaw15.ClipHalfPlaneExact", spec := "clipHalfPlaneExact", apart := false, narrowed := true }
def ClipHalfPlaneExactUptoSaid : Prop := clipHalfPlaneExactUptoRow.holds Try.pinned (OpenSpec.upto clipHalfPlaneExactSpec)

/-- 'caromlaw15.ClipVertexIDs', WHERE WHAT IT READS IS OF BULK AT MOST 1048576: true; the input reads as it did. -/
def clipVertexIDsUptoRow : OpenClaim := { program := "ytiahkaonbkmffaa", sum := "d3fb78f7f6ef1b44967e364a18f19899264cbe6963ddd869c27269001622b78e", func := "carom/caromlaw15.ClipVertexIDs", spec := "clipVertexIDs", apart := false, narrowed := true }
def ClipVertexIDsUptoSaid : Prop := clipVertexIDsUptoRow.holds Try.pinned (OpenSpec.upto clipVertexIDsSpec)

/-- 'caromlaw15.ClipSymmetric', WHERE WHAT IT READS IS OF BULK AT MOST 1048576: true; the input reads as it did. -/
def clipSymmetricUptoRow : OpenClaim := { program := "ytiahkaonbkmffaa", sum := "d3fb78f7f6ef1b44967e364a18f19899264cbe6963ddd869c27269001622b78e", func := "carom/caromlaw15.ClipSymmetric", spec := "clipSymmetric", apart := false, narrowed := true }
def ClipSymmetricUptoSaid : Prop := clipSymmetricUptoRow.holds Try.pinned (OpenSpec.upto clipSymmetricSpec)

/-- 'caromlaw15.ClipOutside', WHERE WHAT IT READS IS OF BULK AT MOST 1048576: true; the input reads as it did. -/
def clipOutsideUptoRow : OpenClaim := { program := "ytiahkaonbkmffaa", sum := "d3fb78f7f6ef1b44967e364a18f19899264cbe6963ddd869c27269001622b78e", func := "carom/caromlaw15.ClipOutside", spec := "clipOutside", apart := false, narrowed := true }
def ClipOutsideUptoSaid : Prop := clipOutsideUptoRow.holds Try.pinned (OpenSpec.upto clipOutsideSpec)

end Rows
end Go.Proofs.Ytiahkaonbkmffaa
