/-
  No cell of these rows narrows 'for every input' (looked for: loops, veiled, ifaces, maps, wideKeys, modest, calm, conditions, laid).
  DERIVED. THE GIVEN ROWS OF THIS SEAT. 6 by the template 'for every input the law returns true; each argument reads behind the call as it read before'; 0 by the template 'total and deterministic' (their statements: YtconfbdnhalmoaaTotals.lean).
  GIVEN WITH THE SEED: the statements are not yours to turn. If you find one false, say at which input.
  Laid BY PROGRAM, IN A SANDBOX (cutbox-rows.mjs): the forced cells as the released guide's own fill.sh prints them over the translation 6fc425f1e9e4dbd1… (all of the seat's roots in one cut). By AI agents, Wed Nov 11 2026. No macro, syntax, notation, axiom, sorry.
-/
import Derived.Test.YtconfbdnhalmoaaChecked
import GoSem.Claim
import GoSem.ClaimJoined
import GoSem.ClaimMapViews
import Derived.JoinedTies
import Derived.KernelRfl
namespace Go.Proofs.Ytconfbdnhalmoaa
/- THE CELL 'sum', in the pinned program and in every row, IS THE sha256 OF THE DUMP (.gsa) THAT YtconfbdnhalmoaaProg.lean LOADS. Nothing in Lean hashes anything: it is a label: what it is worth is what the hold of that sum in a sandbox is worth. -/
noncomputable def Try.pinned : Pinned := { name := "ytconfbdnhalmoaa", sum := "6fc425f1e9e4dbd1366a1bc4b8e355ef0c9e8403eaf8ac68c20433088aac470e", checked := Try.checked }
namespace Rows
def none {H : Type} : Left H := { results := [], args := [] }

/-- 'caromlaw10.SegmentDistance': WHATEVER THE INPUT: true; the input reads as it did. -/
def segmentDistanceSpec : ChangeSpec := { name := "segmentDistance", fn := fun _ => fun
  | [d1, d2, d3, d4] => { results := [.lit (.bool true)], args := [d1, d2, d3, d4] }
  | _ => none }
def segmentDistanceRow : OpenClaim := { program := "ytconfbdnhalmoaa", sum := "6fc425f1e9e4dbd1366a1bc4b8e355ef0c9e8403eaf8ac68c20433088aac470e", func := "carom/caromlaw10.SegmentDistance", spec := "segmentDistance", apart := false }
def SegmentDistanceSaid : Prop := segmentDistanceRow.holds Try.pinned (OpenSpec.ofChange segmentDistanceSpec)

/-- ITS FALSE NEIGHBOUR: 'it returns false'. Refute it at one input. -/
def segmentDistanceWrong : ChangeSpec := { name := "segmentDistance", fn := fun _ => fun
  | [d1, d2, d3, d4] => { results := [.lit (.bool false)], args := [d1, d2, d3, d4] }
  | _ => none }
def SegmentDistanceWrongFalsely : Prop := segmentDistanceRow.holds Try.pinned (OpenSpec.ofChange segmentDistanceWrong)

/-- 'caromlaw10.SegmentClosestPoint': WHATEVER THE INPUT: true; the input reads as it did. -/
def segmentClosestPointSpec : ChangeSpec := { name := "segmentClosestPoint", fn := fun _ => fun
  | [d1, d2, d3] => { results := [.lit (.bool true)], args := [d1, d2, d3] }
  | _ => none }
def segmentClosestPointRow : OpenClaim := { program := "ytconfbdnhalmoaa", sum := "6fc425f1e9e4dbd1366a1bc4b8e355ef0c9e8403eaf8ac68c20433088aac470e", func := "carom/caromlaw10.SegmentClosestPoint", spec := "segmentClosestPoint", apart := false }
def SegmentClosestPointSaid : Prop := segmentClosestPointRow.holds Try.pinned (OpenSpec.ofChange segmentClosestPointSpec)

/-- ITS FALSE NEIGHBOUR: 'it returns false'. Refute it at one input. -/
def segmentClosestPointWrong : ChangeSpec := { name := "segmentClosestPoint", fn := fun _ => fun
  | [d1, d2, d3] => { results := [.lit (.bool false)], args := [d1, d2, d3] }
  | _ => none }
def SegmentClosestPointWrongFalsely : Prop := segmentClosestPointRow.holds Try.pinned (OpenSpec.ofChange segmentClosestPointWrong)

/-- 'caromlaw10.SegmentIntersection': WHATEVER THE INPUT: true; the input reads as it did. -/
def segmentIntersectionSpec : ChangeSpec := { name := "segmentIntersection", fn := fun _ => fun
  | [d1, d2, d3, d4] => { results := [.lit (.bool true)], args := [d1, d2, d3, d4] }
  | _ => none }
def segmentIntersectionRow : OpenClaim := { program := "ytconfbdnhalmoaa", sum := "6fc425f1e9e4dbd1366a1bc4b8e355ef0c9e8403eaf8ac68c20433088aac470e", func := "carom/caromlaw10.SegmentIntersection", spec := "segmentIntersection", apart := false }
def SegmentIntersectionSaid : Prop := segmentIntersectionRow.holds Try.pinned (OpenSpec.ofChange segmentIntersectionSpec)

/-- ITS FALSE NEIGHBOUR: 'it returns false'. Refute it at one input. -/
def segmentIntersectionWrong : ChangeSpec := { name := "segmentIntersection", fn := fun _ => fun
  | [d1, d2, d3, d4] => { results := [.lit (.bool false)], args := [d1, d2, d3, d4] }
  | _ => none }
def SegmentIntersectionWrongFalsely : Prop := segmentIntersectionRow.holds Try.pinned (OpenSpec.ofChange segmentIntersectionWrong)

/-- 'caromlaw10.SegmentSymmetry': WHATEVER THE INPUT: true; the input reads as it did. -/
def segmentSymmetrySpec : ChangeSpec := { name := "segmentSymmetry", fn := fun _ => fun
  | [d1, d2, d3, d4] => { results := [.lit (.bool true)], args := [d1, d2, d3, d4] }
  | _ => none }
def segmentSymmetryRow : OpenClaim := { program := "ytconfbdnhalmoaa", sum := "6fc425f1e9e4dbd1366a1bc4b8e355ef0c9e8403eaf8ac68c20433088aac470e", func := "carom/caromlaw10.SegmentSymmetry", spec := "segmentSymmetry", apart := false }
def SegmentSymmetrySaid : Prop := segmentSymmetryRow.holds Try.pinned (OpenSpec.ofChange segmentSymmetrySpec)

/-- ITS FALSE NEIGHBOUR: 'it returns false'. Refute it at one input. -/
def segmentSymmetryWrong : ChangeSpec := { name := "segmentSymmetry", fn := fun _ => fun
  | [d1, d2, d3, d4] => { results := [.lit (.bool false)], args := [d1, d2, d3, d4] }
  | _ => none }
def SegmentSymmetryWrongFalsely : Prop := segmentSymmetryRow.holds Try.pinned (OpenSpec.ofChange segmentSymmetryWrong)

/-- 'caromlaw10.SegmentEndPoints': WHATEVER THE INPUT: true; the input reads as it did. -/
def segmentEndPointsSpec : ChangeSpec := { name := "segmentEndPoints", fn := fun _ => fun
  | [d1, d2, d3, d4] => { results := [.lit (.bool true)], args := [d1, d2, d3, d4] }
  | _ => none }
def segmentEndPointsRow : OpenClaim := { program := "ytconfbdnhalmoaa", sum := "6fc425f1e9e4dbd1366a1bc4b8e355ef0c9e8403eaf8ac68c20433088aac470e", func := "carom/caromlaw10.SegmentEndPoints", spec := "segmentEndPoints", apart := false }
def SegmentEndPointsSaid : Prop := segmentEndPointsRow.holds Try.pinned (OpenSpec.ofChange segmentEndPointsSpec)

/-- ITS FALSE NEIGHBOUR: 'it returns false'. Refute it at one input. -/
def segmentEndPointsWrong : ChangeSpec := { name := "segmentEndPoints", fn := fun _ => fun
  | [d1, d2, d3, d4] => { results := [.lit (.bool false)], args := [d1, d2, d3, d4] }
  | _ => none }
def SegmentEndPointsWrongFalsely : Prop := segmentEndPointsRow.holds Try.pinned (OpenSpec.ofChange segmentEndPointsWrong)

/-- 'caromlaw10.SegmentBounds': WHATEVER THE INPUT: true; the input reads as it did. -/
def segmentBoundsSpec : ChangeSpec := { name := "segmentBounds", fn := fun _ => fun
  | [d1, d2, d3, d4] => { results := [.lit (.bool true)], args := [d1, d2, d3, d4] }
  | _ => none }
def segmentBoundsRow : OpenClaim := { program := "ytconfbdnhalmoaa", sum := "6fc425f1e9e4dbd1366a1bc4b8e355ef0c9e8403eaf8ac68c20433088aac470e", func := "carom/caromlaw10.SegmentBounds", spec := "segmentBounds", apart := false }
def SegmentBoundsSaid : Prop := segmentBoundsRow.holds Try.pinned (OpenSpec.ofChange segmentBoundsSpec)

/-- ITS FALSE NEIGHBOUR: 'it returns false'. Refute it at one input. -/
def segmentBoundsWrong : ChangeSpec := { name := "segmentBounds", fn := fun _ => fun
  | [d1, d2, d3, d4] => { results := [.lit (.bool false)], args := [d1, d2, d3, d4] }
  | _ => none }
def SegmentBoundsWrongFalsely : Prop := segmentBoundsRow.holds Try.pinned (OpenSpec.ofChange segmentBoundsWrong)

/- THE SECOND FORM. 'bulk': how many values and letters a reading holds, each counted each time it is reached (what is shared counts as often as it is met; a slice's spare places count too). A statement '..UptoSaid' is the law's where the arguments, and the package variables that the reading takes, are together of bulk at most 1048576: NARROWER than '..Said'. Prove '..Said' where nothing that the law and all that it calls make is longer than what came in: it says more and counts as full. Else prove '..UptoSaid'. A law counts once. -/
mutual
def uptoBulk {H : Type} : DataW H → Nat
  | .lit (.string bytes) => bytes.length + 1
  | .lit _ => 1
  | .nil => 1
  | .ptr d => uptoBulk d + 1
  | .slice elems spare => uptoBulkAll elems + uptoBulkAll spare + 1
  | .agg parts => uptoBulkAll parts + 1
  | .iface _ d => uptoBulk d + 1
  | .map entries => uptoBulkEntries entries + 1
  | .held _ => 1
def uptoBulkAll {H : Type} : List (DataW H) → Nat
  | [] => 0
  | d :: r => uptoBulk d + uptoBulkAll r
def uptoBulkEntries {H : Type} : List (Lit × DataW H) → Nat
  | [] => 0
  | x :: r => uptoBulkEntry x + uptoBulkEntries r
def uptoBulkEntry {H : Type} : Lit × DataW H → Nat
  | (.string bytes, d) => bytes.length + uptoBulk d + 1
  | (_, d) => uptoBulk d + 1
 end
def uptoSmall : (H : Type) → List (DataW H) → Bool := fun _ ds => decide (uptoBulkAll ds ≤ 1048576)
def OpenSpec.upto (s : _root_.Go.ChangeSpec) : _root_.Go.OpenSpec := { _root_.Go.OpenSpec.ofChange s with cond := some uptoSmall }

/-- 'caromlaw10.SegmentDistance', WHERE WHAT IT READS IS OF BULK AT MOST 1048576: true; the input reads as it did. -/
def segmentDistanceUptoRow : OpenClaim := { program := "ytconfbdnhalmoaa", sum := "6fc425f1e9e4dbd1366a1bc4b8e355ef0c9e8403eaf8ac68c20433088aac470e", func := "carom/caromlaw10.SegmentDistance", spec := "segmentDistance", apart := false, narrowed := true }
def SegmentDistanceUptoSaid : Prop := segmentDistanceUptoRow.holds Try.pinned (OpenSpec.upto segmentDistanceSpec)

/-- 'caromlaw10.SegmentClosestPoint', WHERE WHAT IT READS IS OF BULK AT MOST 1048576: true; the input reads as it did. -/
def segmentClosestPointUptoRow : OpenClaim := { program := "ytconfbdnhalmoaa", sum := "6fc425f1e9e4dbd1366a1bc4b8e355ef0c9e8403eaf8ac68c20433088aac470e", func := "carom/caromlaw10.SegmentClosestPoint", spec := "segmentClosestPoint", apart := false, narrowed := true }
def SegmentClosestPointUptoSaid : Prop := segmentClosestPointUptoRow.holds Try.pinned (OpenSpec.upto segmentClosestPointSpec)

/-- 'caromlaw10.SegmentIntersection', WHERE WHAT IT READS IS OF BULK AT MOST 1048576: true; the input reads as it did. -/
def segmentIntersectionUptoRow : OpenClaim := { program := "ytconfbdnhalmoaa", sum := "6fc425f1e9e4dbd1366a1bc4b8e355ef0c9e8403eaf8ac68c20433088aac470e", func := "carom/caromlaw10.SegmentIntersection", spec := "segmentIntersection", apart := false, narrowed := true }
def SegmentIntersectionUptoSaid : Prop := segmentIntersectionUptoRow.holds Try.pinned (OpenSpec.upto segmentIntersectionSpec)

/-- 'caromlaw10.SegmentSymmetry', WHERE WHAT IT READS IS OF BULK AT MOST 1048576: true; the input reads as it did. -/
def segmentSymmetryUptoRow : OpenClaim := { program := "ytconfbdnhalmoaa", sum := "6fc425f1e9e4dbd1366a1bc4b8e355ef0c9e8403eaf8ac68c20433088aac470e", func := "carom/caromlaw10.SegmentSymmetry", spec := "segmentSymmetry", apart := false, narrowed := true }
def SegmentSymmetryUptoSaid : Prop := segmentSymmetryUptoRow.holds Try.pinned (OpenSpec.upto segmentSymmetrySpec)

/-- 'caromlaw10.SegmentEndPoints', WHERE WHAT IT READS IS OF BULK AT MOST 1048576: true; the input reads as it did. -/
def segmentEndPointsUptoRow : OpenClaim := { program := "ytconfbdnhalmoaa", sum := "6fc425f1e9e4dbd1366a1bc4b8e355ef0c9e8403eaf8ac68c20433088aac470e", func := "carom/caromlaw10.SegmentEndPoints", spec := "segmentEndPoints", apart := false, narrowed := true }
def SegmentEndPointsUptoSaid : Prop := segmentEndPointsUptoRow.holds Try.pinned (OpenSpec.upto segmentEndPointsSpec)

/-- 'caromlaw10.SegmentBounds', WHERE WHAT IT READS IS OF BULK AT MOST 1048576: true; the input reads as it did. -/
def segmentBoundsUptoRow : OpenClaim := { program := "ytconfbdnhalmoaa", sum := "6fc425f1e9e4dbd1366a1bc4b8e355ef0c9e8403eaf8ac68c20433088aac470e", func := "carom/caromlaw10.SegmentBounds", spec := "segmentBounds", apart := false, narrowed := true }
def SegmentBoundsUptoSaid : Prop := segmentBoundsUptoRow.holds Try.pinned (OpenSpec.upto segmentBoundsSpec)

end Rows
end Go.Proofs.Ytconfbdnhalmoaa
