/-
  No cell of these rows narrows 'for every input' (looked for: loops, veiled, ifaces, maps, wideKeys, modest, calm, conditions, laid).
  DERIVED. THE GIVEN ROWS OF THIS SEAT. 6 by the template 'for every input the law returns true; each argument reads behind the call as it read before'; 0 by the template 'total and deterministic' (their statements: YtlcijdfjnblmiaaTotals.lean).
  GIVEN WITH THE SEED: the statements are not yours to turn. If you find one false, say at which input.
  Laid BY PROGRAM, IN A SANDBOX (cutbox-rows.mjs): the forced cells as the released guide's own fill.sh prints them over the translation 379cb21b96d0eeae… (all of the seat's roots in one cut). By AI agents, Wed Nov 11 2026. No macro, syntax, notation, axiom, sorry.
-/
import Derived.Test.YtlcijdfjnblmiaaChecked
import GoSem.Claim
import GoSem.ClaimJoined
import GoSem.ClaimMapViews
import Derived.JoinedTies
import Derived.KernelRfl
namespace Go.Proofs.Ytlcijdfjnblmiaa
/- THE CELL 'sum', in the pinned program and in every row, IS THE sha256 OF THE DUMP (.gsa) THAT YtlcijdfjnblmiaaProg.lean LOADS. Nothing in Lean hashes anything: it is a label: what it is worth is what the hold of that sum in a sandbox is worth. -/
noncomputable def Try.pinned : Pinned := { name := "ytlcijdfjnblmiaa", sum := "379cb21b96d0eeae7f322a16d8258a7a2bc726d95509db137bbc1f11074143a4", checked := Try.checked }
namespace Rows
def none {H : Type} : Left H := { results := [], args := [] }

/-- 'caromlaw03.Vec2Arithmetic': WHATEVER THE INPUT: true; the input reads as it did. -/
def vec2ArithmeticSpec : ChangeSpec := { name := "vec2Arithmetic", fn := fun _ => fun
  | [d1, d2, d3] => { results := [.lit (.bool true)], args := [d1, d2, d3] }
  | _ => none }
def vec2ArithmeticRow : OpenClaim := { program := "ytlcijdfjnblmiaa", sum := "379cb21b96d0eeae7f322a16d8258a7a2bc726d95509db137bbc1f11074143a4", func := "carom/caromlaw03.Vec2Arithmetic", spec := "vec2Arithmetic", apart := false }
def Vec2ArithmeticSaid : Prop := vec2ArithmeticRow.holds Try.pinned (OpenSpec.ofChange vec2ArithmeticSpec)

/-- ITS FALSE NEIGHBOUR: 'it returns false'. Refute it at one input. -/
def vec2ArithmeticWrong : ChangeSpec := { name := "vec2Arithmetic", fn := fun _ => fun
  | [d1, d2, d3] => { results := [.lit (.bool false)], args := [d1, d2, d3] }
  | _ => none }
def Vec2ArithmeticWrongFalsely : Prop := vec2ArithmeticRow.holds Try.pinned (OpenSpec.ofChange vec2ArithmeticWrong)

/-- 'caromlaw03.Vec2Rotation': WHATEVER THE INPUT: true; the input reads as it did. -/
def vec2RotationSpec : ChangeSpec := { name := "vec2Rotation", fn := fun _ => fun
  | [d1, d2] => { results := [.lit (.bool true)], args := [d1, d2] }
  | _ => none }
def vec2RotationRow : OpenClaim := { program := "ytlcijdfjnblmiaa", sum := "379cb21b96d0eeae7f322a16d8258a7a2bc726d95509db137bbc1f11074143a4", func := "carom/caromlaw03.Vec2Rotation", spec := "vec2Rotation", apart := false }
def Vec2RotationSaid : Prop := vec2RotationRow.holds Try.pinned (OpenSpec.ofChange vec2RotationSpec)

/-- ITS FALSE NEIGHBOUR: 'it returns false'. Refute it at one input. -/
def vec2RotationWrong : ChangeSpec := { name := "vec2Rotation", fn := fun _ => fun
  | [d1, d2] => { results := [.lit (.bool false)], args := [d1, d2] }
  | _ => none }
def Vec2RotationWrongFalsely : Prop := vec2RotationRow.holds Try.pinned (OpenSpec.ofChange vec2RotationWrong)

/-- 'caromlaw03.Vec2OrientationSign': WHATEVER THE INPUT: true; the input reads as it did. -/
def vec2OrientationSignSpec : ChangeSpec := { name := "vec2OrientationSign", fn := fun _ => fun
  | [d1, d2, d3] => { results := [.lit (.bool true)], args := [d1, d2, d3] }
  | _ => none }
def vec2OrientationSignRow : OpenClaim := { program := "ytlcijdfjnblmiaa", sum := "379cb21b96d0eeae7f322a16d8258a7a2bc726d95509db137bbc1f11074143a4", func := "carom/caromlaw03.Vec2OrientationSign", spec := "vec2OrientationSign", apart := false }
def Vec2OrientationSignSaid : Prop := vec2OrientationSignRow.holds Try.pinned (OpenSpec.ofChange vec2OrientationSignSpec)

/-- ITS FALSE NEIGHBOUR: 'it returns false'. Refute it at one input. -/
def vec2OrientationSignWrong : ChangeSpec := { name := "vec2OrientationSign", fn := fun _ => fun
  | [d1, d2, d3] => { results := [.lit (.bool false)], args := [d1, d2, d3] }
  | _ => none }
def Vec2OrientationSignWrongFalsely : Prop := vec2OrientationSignRow.holds Try.pinned (OpenSpec.ofChange vec2OrientationSignWrong)

/-- 'caromlaw03.Vec2LengthBounds': WHATEVER THE INPUT: true; the input reads as it did. -/
def vec2LengthBoundsSpec : ChangeSpec := { name := "vec2LengthBounds", fn := fun _ => fun
  | [d] => { results := [.lit (.bool true)], args := [d] }
  | _ => none }
def vec2LengthBoundsRow : OpenClaim := { program := "ytlcijdfjnblmiaa", sum := "379cb21b96d0eeae7f322a16d8258a7a2bc726d95509db137bbc1f11074143a4", func := "carom/caromlaw03.Vec2LengthBounds", spec := "vec2LengthBounds", apart := false }
def Vec2LengthBoundsSaid : Prop := vec2LengthBoundsRow.holds Try.pinned (OpenSpec.ofChange vec2LengthBoundsSpec)

/-- ITS FALSE NEIGHBOUR: 'it returns false'. Refute it at one input. -/
def vec2LengthBoundsWrong : ChangeSpec := { name := "vec2LengthBounds", fn := fun _ => fun
  | [d] => { results := [.lit (.bool false)], args := [d] }
  | _ => none }
def Vec2LengthBoundsWrongFalsely : Prop := vec2LengthBoundsRow.holds Try.pinned (OpenSpec.ofChange vec2LengthBoundsWrong)

/-- 'caromlaw03.Vec2Products': WHATEVER THE INPUT: true; the input reads as it did. -/
def vec2ProductsSpec : ChangeSpec := { name := "vec2Products", fn := fun _ => fun
  | [d1, d2] => { results := [.lit (.bool true)], args := [d1, d2] }
  | _ => none }
def vec2ProductsRow : OpenClaim := { program := "ytlcijdfjnblmiaa", sum := "379cb21b96d0eeae7f322a16d8258a7a2bc726d95509db137bbc1f11074143a4", func := "carom/caromlaw03.Vec2Products", spec := "vec2Products", apart := false }
def Vec2ProductsSaid : Prop := vec2ProductsRow.holds Try.pinned (OpenSpec.ofChange vec2ProductsSpec)

/-- ITS FALSE NEIGHBOUR: 'it returns false'. Refute it at one input. -/
def vec2ProductsWrong : ChangeSpec := { name := "vec2Products", fn := fun _ => fun
  | [d1, d2] => { results := [.lit (.bool false)], args := [d1, d2] }
  | _ => none }
def Vec2ProductsWrongFalsely : Prop := vec2ProductsRow.holds Try.pinned (OpenSpec.ofChange vec2ProductsWrong)

/-- 'caromlaw03.Vec2QuarterTurns': WHATEVER THE INPUT: true; the input reads as it did. -/
def vec2QuarterTurnsSpec : ChangeSpec := { name := "vec2QuarterTurns", fn := fun _ => fun
  | [d1, d2] => { results := [.lit (.bool true)], args := [d1, d2] }
  | _ => none }
def vec2QuarterTurnsRow : OpenClaim := { program := "ytlcijdfjnblmiaa", sum := "379cb21b96d0eeae7f322a16d8258a7a2bc726d95509db137bbc1f11074143a4", func := "carom/caromlaw03.Vec2QuarterTurns", spec := "vec2QuarterTurns", apart := false }
def Vec2QuarterTurnsSaid : Prop := vec2QuarterTurnsRow.holds Try.pinned (OpenSpec.ofChange vec2QuarterTurnsSpec)

/-- ITS FALSE NEIGHBOUR: 'it returns false'. Refute it at one input. -/
def vec2QuarterTurnsWrong : ChangeSpec := { name := "vec2QuarterTurns", fn := fun _ => fun
  | [d1, d2] => { results := [.lit (.bool false)], args := [d1, d2] }
  | _ => none }
def Vec2QuarterTurnsWrongFalsely : Prop := vec2QuarterTurnsRow.holds Try.pinned (OpenSpec.ofChange vec2QuarterTurnsWrong)

/- THE SECOND FORM. 'bulk': how many values and letters a reading holds, each counted each time it is reached (what is shared counts as often as it is met; a slice's spare places count too). A statement '..UptoSaid' is the law's where the arguments, and the package variables that the reading takes, are together of bulk at most 1048576: NARROWER than '..Said'. Prove '..Said' where nothing that the law and all that it calls make is longer than what came in: it says more and counts as full. Else prove '..UptoSaid'. A law counts once. -/
mutual
def uptoBulk {H : Type} : DataW H → Nat
  | .lit (.string bytes) => bytes.length + 1
  | .lit _ => 1
  | .nil => 1
  | .ptr d => uptoBulk d + 1
  | .slice elems spare => uptoBulkAll elems + uptoBulkAll spare + 1
  | .agg parts => uptoBulkAll parts + 1
  | .iface _ d => uptoBulk d + 1
  | .map entries => uptoBulkEntries entries + 1
  | .held _ => 1
def uptoBulkAll {H : Type} : List (DataW H) → Nat
  | [] => 0
  | d :: r => uptoBulk d + uptoBulkAll r
def uptoBulkEntries {H : Type} : List (Lit × DataW H) → Nat
  | [] => 0
  | x :: r => uptoBulkEntry x + uptoBulkEntries r
def uptoBulkEntry {H : Type} : Lit × DataW H → Nat
  | (.string bytes, d) => bytes.length + uptoBulk d + 1
  | (_, d) => uptoBulk d + 1
 end
def uptoSmall : (H : Type) → List (DataW H) → Bool := fun _ ds => decide (uptoBulkAll ds ≤ 1048576)
def OpenSpec.upto (s : _root_.Go.ChangeSpec) : _root_.Go.OpenSpec := { _root_.Go.OpenSpec.ofChange s with cond := some uptoSmall }

/-- 'caromlaw03.Vec2Arithmetic', WHERE WHAT IT READS IS OF BULK AT MOST 1048576: true; the input reads as it did. -/
def vec2ArithmeticUptoRow : OpenClaim := { program := "ytlcijdfjnblmiaa", sum := "379cb21b96d0eeae7f322a16d8258a7a2bc726d95509db137bbc1f11074143a4", func := "carom/caromlaw03.Vec2Arithmetic", spec := "vec2Arithmetic", apart := false, narrowed := true }
def Vec2ArithmeticUptoSaid : Prop := vec2ArithmeticUptoRow.holds Try.pinned (OpenSpec.upto vec2ArithmeticSpec)

/-- 'caromlaw03.Vec2Rotation', WHERE WHAT IT READS IS OF BULK AT MOST 1048576: true; the input reads as it did. -/
def vec2RotationUptoRow : OpenClaim := { program := "ytlcijdfjnblmiaa", sum := "379cb21b96d0eeae7f322a16d8258a7a2bc726d95509db137bbc1f11074143a4", func := "carom/caromlaw03.Vec2Rotation", spec := "vec2Rotation", apart := false, narrowed := true }
def Vec2RotationUptoSaid : Prop := vec2RotationUptoRow.holds Try.pinned (OpenSpec.upto vec2RotationSpec)

/-- 'caromlaw03.Vec2OrientationSign', WHERE WHAT IT READS IS OF BULK AT MOST 1048576: true; the input reads as it did. -/
def vec2OrientationSignUptoRow : OpenClaim := { program := "ytlcijdfjnblmiaa", sum := "379cb21b96d0eeae7f322a16d8258a7a2bc726d95509db137bbc1f11074143a4", func := "carom/caromlaw03.Vec2OrientationSign", spec := "vec2OrientationSign", apart := false, narrowed := true }
def Vec2OrientationSignUptoSaid : Prop := vec2OrientationSignUptoRow.holds Try.pinned (OpenSpec.upto vec2OrientationSignSpec)

/-- 'caromlaw03.Vec2LengthBounds', WHERE WHAT IT READS IS OF BULK AT MOST 1048576: true; the input reads as it did. -/
def vec2LengthBoundsUptoRow : OpenClaim := { program := "ytlcijdfjnblmiaa", sum := "379cb21b96d0eeae7f322a16d8258a7a2bc726d95509db137bbc1f11074143a4", func := "carom/caromlaw03.Vec2LengthBounds", spec := "vec2LengthBounds", apart := false, narrowed := true }
def Vec2LengthBoundsUptoSaid : Prop := vec2LengthBoundsUptoRow.holds Try.pinned (OpenSpec.upto vec2LengthBoundsSpec)

/-- 'caromlaw03.Vec2Products', WHERE WHAT IT READS IS OF BULK AT MOST 1048576: true; the input reads as it did. -/
def vec2ProductsUptoRow : OpenClaim := { program := "ytlcijdfjnblmiaa", sum := "379cb21b96d0eeae7f322a16d8258a7a2bc726d95509db137bbc1f11074143a4", func := "carom/caromlaw03.Vec2Products", spec := "vec2Products", apart := false, narrowed := true }
def Vec2ProductsUptoSaid : Prop := vec2ProductsUptoRow.holds Try.pinned (OpenSpec.upto vec2ProductsSpec)

/-- 'caromlaw03.Vec2QuarterTurns', WHERE WHAT IT READS IS OF BULK AT MOST 1048576: true; the input reads as it did. -/
def vec2QuarterTurnsUptoRow : OpenClaim := { program := "ytlcijdfjnblmiaa", sum := "379cb21b96d0eeae7f322a16d8258a7a2bc726d95509db137bbc1f11074143a4", func := "carom/caromlaw03.Vec2QuarterTurns", spec := "vec2QuarterTurns", apart := false, narrowed := true }
def Vec2QuarterTurnsUptoSaid : Prop := vec2QuarterTurnsUptoRow.holds Try.pinned (OpenSpec.upto vec2QuarterTurnsSpec)

end Rows
end Go.Proofs.Ytlcijdfjnblmiaa
