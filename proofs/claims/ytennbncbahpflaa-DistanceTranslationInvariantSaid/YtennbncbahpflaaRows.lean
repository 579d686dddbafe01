/-
  No cell of these rows narrows 'for every input' (looked for: loops, veiled, ifaces, maps, wideKeys, modest, calm, conditions, laid).
  DERIVED. THE GIVEN ROWS OF THIS SEAT. 3 by the template 'for every input the law returns true; each argument reads behind the call as it read before'; 0 by the template 'total and deterministic' (their statements: YtennbncbahpflaaTotals.lean).
  GIVEN WITH THE SEED: the statements are not yours to turn. If you find one false, say at which input.
  Laid BY PROGRAM, IN A SANDBOX (cutbox-rows.mjs): the forced cells as the released guide's own fill.sh prints them over the translation 42bccd482bca112b… (all of the seat's roots in one cut). By AI agents, Wed Nov 11 2026. No macro, syntax, notation, axiom, sorry.
-/
import Derived.Test.YtennbncbahpflaaChecked
import GoSem.Claim
import GoSem.ClaimJoined
import GoSem.ClaimMapViews
import Derived.JoinedTies
import Derived.KernelRfl
namespace Go.Proofs.Ytennbncbahpflaa
/- THE CELL 'sum', in the pinned program and in every row, IS THE sha256 OF THE DUMP (.gsa) THAT YtennbncbahpflaaProg.lean LOADS. Nothing in Lean hashes anything: it is a label: what it is worth is what the hold of that sum in a sandbox is worth. -/
noncomputable def Try.pinned : Pinned := { name := "ytennbncbahpflaa", sum := "42bccd482bca112bcd4f377e49c79eb25b8c3a462f92e1d20864e56e131fbda5", checked := Try.checked }
namespace Rows
def none {H : Type} : Left H := { results := [], args := [] }

/-- 'caromlaw17.DistanceSymmetric': WHATEVER THE INPUT: true; the input reads as it did. -/
def distanceSymmetricSpec : ChangeSpec := { name := "distanceSymmetric", fn := fun _ => fun
  | [d1, d2, d3, d4] => { results := [.lit (.bool true)], args := [d1, d2, d3, d4] }
  | _ => none }
def distanceSymmetricRow : OpenClaim := { program := "ytennbncbahpflaa", sum := "42bccd482bca112bcd4f377e49c79eb25b8c3a462f92e1d20864e56e131fbda5", func := "carom/caromlaw17.DistanceSymmetric", spec := "distanceSymmetric", apart := false }
def DistanceSymmetricSaid : Prop := distanceSymmetricRow.holds Try.pinned (OpenSpec.ofChange distanceSymmetricSpec)

/-- ITS FALSE NEIGHBOUR: 'it returns false'. Refute it at one input. -/
def distanceSymmetricWrong : ChangeSpec := { name := "distanceSymmetric", fn := fun _ => fun
  | [d1, d2, d3, d4] => { results := [.lit (.bool false)], args := [d1, d2, d3, d4] }
  | _ => none }
def DistanceSymmetricWrongFalsely : Prop := distanceSymmetricRow.holds Try.pinned (OpenSpec.ofChange distanceSymmetricWrong)

/-- 'caromlaw17.DistanceToCircle': WHATEVER THE INPUT: true; the input reads as it did. -/
def distanceToCircleSpec : ChangeSpec := { name := "distanceToCircle", fn := fun _ => fun
  | [d1, d2, d3, d4] => { results := [.lit (.bool true)], args := [d1, d2, d3, d4] }
  | _ => none }
def distanceToCircleRow : OpenClaim := { program := "ytennbncbahpflaa", sum := "42bccd482bca112bcd4f377e49c79eb25b8c3a462f92e1d20864e56e131fbda5", func := "carom/caromlaw17.DistanceToCircle", spec := "distanceToCircle", apart := false }
def DistanceToCircleSaid : Prop := distanceToCircleRow.holds Try.pinned (OpenSpec.ofChange distanceToCircleSpec)

/-- ITS FALSE NEIGHBOUR: 'it returns false'. Refute it at one input. -/
def distanceToCircleWrong : ChangeSpec := { name := "distanceToCircle", fn := fun _ => fun
  | [d1, d2, d3, d4] => { results := [.lit (.bool false)], args := [d1, d2, d3, d4] }
  | _ => none }
def DistanceToCircleWrongFalsely : Prop := distanceToCircleRow.holds Try.pinned (OpenSpec.ofChange distanceToCircleWrong)

/-- 'caromlaw17.DistanceTranslationInvariant': WHATEVER THE INPUT: true; the input reads as it did. -/
def distanceTranslationInvariantSpec : ChangeSpec := { name := "distanceTranslationInvariant", fn := fun _ => fun
  | [d1, d2, d3, d4, d5] => { results := [.lit (.bool true)], args := [d1, d2, d3, d4, d5] }
  | _ => none }
def distanceTranslationInvariantRow : OpenClaim := { program := "ytennbncbahpflaa", sum := "42bccd482bca112bcd4f377e49c79eb25b8c3a462f92e1d20864e56e131fbda5", func := "carom/caromlaw17.DistanceTranslationInvariant", spec := "distanceTranslationInvariant", apart := false }
def DistanceTranslationInvariantSaid : Prop := distanceTranslationInvariantRow.holds Try.pinned (OpenSpec.ofChange distanceTranslationInvariantSpec)

/-- ITS FALSE NEIGHBOUR: 'it returns false'. Refute it at one input. -/
def distanceTranslationInvariantWrong : ChangeSpec := { name := "distanceTranslationInvariant", fn := fun _ => fun
  | [d1, d2, d3, d4, d5] => { results := [.lit (.bool false)], args := [d1, d2, d3, d4, d5] }
  | _ => none }
def DistanceTranslationInvariantWrongFalsely : Prop := distanceTranslationInvariantRow.holds Try.pinned (OpenSpec.ofChange distanceTranslationInvariantWrong)

/- THE SECOND FORM. 'bulk': how many values and letters a reading holds, each counted each time it is reached (what is shared counts as often as it is met; a slice's spare places count too). A statement '..UptoSaid' is the law's where the arguments, and the package variables that the reading takes, are together of bulk at most 1048576: NARROWER than '..Said'. Prove '..Said' where nothing that the law and all that it calls make is longer than what came in: it says more and counts as full. Else prove '..UptoSaid'. A law counts once. -/
mutual
def uptoBulk {H : Type} : DataW H → Nat
  | .lit (.string bytes) => bytes.length + 1
  | .lit _ => 1
  | .nil => 1
  | .ptr d => uptoBulk d + 1
  | .slice elems spare => uptoBulkAll elems + uptoBulkAll spare + 1
  | .agg parts => uptoBulkAll parts + 1
  | .iface _ d => uptoBulk d + 1
  | .map entries => uptoBulkEntries entries + 1
  | .held _ => 1
def uptoBulkAll {H : Type} : List (DataW H) → Nat
  | [] => 0
  | d :: r => uptoBulk d + uptoBulkAll r
def uptoBulkEntries {H : Type} : List (Lit × DataW H) → Nat
  | [] => 0
  | x :: r => uptoBulkEntry x + uptoBulkEntries r
def uptoBulkEntry {H : Type} : Lit × DataW H → Nat
  | (.string bytes, d) => bytes.length + uptoBulk d + 1
  | (_, d) => uptoBulk d + 1
 end
def uptoSmall : (H : Type) → List (DataW H) → Bool := fun _ ds => decide (uptoBulkAll ds ≤ 1048576)
def OpenSpec.upto (s : _root_.Go.ChangeSpec) : _root_.Go.OpenSpec := { _root_.Go.OpenSpec.ofChange s with cond := some uptoSmall }

/-- 'caromlaw17.DistanceSymmetric', WHERE WHAT IT READS IS OF BULK AT MOST 1048576: true; the input reads as it did. -/
def distanceSymmetricUptoRow : OpenClaim := { program := "ytennbncbahpflaa", sum := "42bccd482bca112bcd4f377e49c79eb25b8c3a462f92e1d20864e56e131fbda5", func := "carom/caromlaw17.DistanceSymmetric", spec := "distanceSymmetric", apart := false, narrowed := true }
def DistanceSymmetricUptoSaid : Prop := distanceSymmetricUptoRow.holds Try.pinned (OpenSpec.upto distanceSymmetricSpec)

/-- 'caromlaw17.DistanceToCircle', WHERE WHAT IT READS IS OF BULK AT MOST 1048576: true; the input reads as it did. -/
def distanceToCircleUptoRow : OpenClaim := { program := "ytennbncbahpflaa", sum := "42bccd482bca112bcd4f377e49c79eb25b8c3a462f92e1d20864e56e131fbda5", func := "carom/caromlaw17.DistanceToCircle", spec := "distanceToCircle", apart := false, narrowed := true }
def DistanceToCircleUptoSaid : Prop := distanceToCircleUptoRow.holds Try.pinned (OpenSpec.upto distanceToCircleSpec)

/-- 'caromlaw17.DistanceTranslationInvariant', WHERE WHAT IT READS IS OF BULK AT MOST 1048576: true; the input reads as it did. -/
def distanceTranslationInvariantUptoRow : OpenClaim := { program := "ytennbncbahpflaa", sum := "42bccd482bca112bcd4f377e49c79eb25b8c3a462f92e1d20864e56e131fbda5", func := "carom/caromlaw17.DistanceTranslationInvariant", spec := "distanceTranslationInvariant", apart := false, narrowed := true }
def DistanceTranslationInvariantUptoSaid : Prop := distanceTranslationInvariantUptoRow.holds Try.pinned (OpenSpec.upto distanceTranslationInvariantSpec)

end Rows
end Go.Proofs.Ytennbncbahpflaa
