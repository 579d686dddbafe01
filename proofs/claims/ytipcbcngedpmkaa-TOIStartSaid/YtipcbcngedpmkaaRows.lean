/-
  No cell of these rows narrows 'for every input' (looked for: loops, veiled, ifaces, maps, wideKeys, modest, calm, conditions, laid).
  DERIVED. THE GIVEN ROWS OF THIS SEAT. 3 by the template 'for every input the law returns true; each argument reads behind the call as it read before'; 0 by the template 'total and deterministic' (their statements: YtipcbcngedpmkaaTotals.lean).
  GIVEN WITH THE SEED: the statements are not yours to turn. If you find one false, say at which input.
  Laid BY PROGRAM, IN A SANDBOX (cutbox-rows.mjs): the forced cells as the released guide's own fill.sh prints them over the translation 29c2eef6a503eca7… (all of the seat's roots in one cut). By AI agents, Wed Nov 11 2026. No macro, syntax, notation, axiom, sorry.
-/
import Derived.Test.YtipcbcngedpmkaaChecked
import GoSem.Claim
import GoSem.ClaimJoined
import GoSem.ClaimMapViews
import Derived.JoinedTies
import Derived.KernelRfl
namespace Go.Proofs.Ytipcbcngedpmkaa
/- THE CELL 'sum', in the pinned program and in every row, IS THE sha256 OF THE DUMP (.gsa) THAT YtipcbcngedpmkaaProg.lean LOADS. Nothing in Lean hashes anything: it is a label: what it is worth is what the hold of that sum in a sandbox is worth. -/
noncomputable def Try.pinned : Pinned := { name := "ytipcbcngedpmkaa", sum := "29c2eef6a503eca780a8f79d41f8927621c7eddd1181751204bd6ad11f6c8bbe", checked := Try.checked }
namespace Rows
def none {H : Type} : Left H := { results := [], args := [] }

/-- 'caromlaw19.TOIStart': WHATEVER THE INPUT: true; the input reads as it did. -/
def tOIStartSpec : ChangeSpec := { name := "tOIStart", fn := fun _ => fun
  | [d] => { results := [.lit (.bool true)], args := [d] }
  | _ => none }
def tOIStartRow : OpenClaim := { program := "ytipcbcngedpmkaa", sum := "29c2eef6a503eca780a8f79d41f8927621c7eddd1181751204bd6ad11f6c8bbe", func := "carom/caromlaw19.TOIStart", spec := "tOIStart", apart := false }
def TOIStartSaid : Prop := tOIStartRow.holds Try.pinned (OpenSpec.ofChange tOIStartSpec)

/-- ITS FALSE NEIGHBOUR: 'it returns false'. Refute it at one input. -/
def tOIStartWrong : ChangeSpec := { name := "tOIStart", fn := fun _ => fun
  | [d] => { results := [.lit (.bool false)], args := [d] }
  | _ => none }
def TOIStartWrongFalsely : Prop := tOIStartRow.holds Try.pinned (OpenSpec.ofChange tOIStartWrong)

/-- 'caromlaw19.TOISymmetry': WHATEVER THE INPUT: true; the input reads as it did. -/
def tOISymmetrySpec : ChangeSpec := { name := "tOISymmetry", fn := fun _ => fun
  | [d] => { results := [.lit (.bool true)], args := [d] }
  | _ => none }
def tOISymmetryRow : OpenClaim := { program := "ytipcbcngedpmkaa", sum := "29c2eef6a503eca780a8f79d41f8927621c7eddd1181751204bd6ad11f6c8bbe", func := "carom/caromlaw19.TOISymmetry", spec := "tOISymmetry", apart := false }
def TOISymmetrySaid : Prop := tOISymmetryRow.holds Try.pinned (OpenSpec.ofChange tOISymmetrySpec)

/-- ITS FALSE NEIGHBOUR: 'it returns false'. Refute it at one input. -/
def tOISymmetryWrong : ChangeSpec := { name := "tOISymmetry", fn := fun _ => fun
  | [d] => { results := [.lit (.bool false)], args := [d] }
  | _ => none }
def TOISymmetryWrongFalsely : Prop := tOISymmetryRow.holds Try.pinned (OpenSpec.ofChange tOISymmetryWrong)

/-- 'caromlaw19.TOIBounds': WHATEVER THE INPUT: true; the input reads as it did. -/
def tOIBoundsSpec : ChangeSpec := { name := "tOIBounds", fn := fun _ => fun
  | [d] => { results := [.lit (.bool true)], args := [d] }
  | _ => none }
def tOIBoundsRow : OpenClaim := { program := "ytipcbcngedpmkaa", sum := "29c2eef6a503eca780a8f79d41f8927621c7eddd1181751204bd6ad11f6c8bbe", func := "carom/caromlaw19.TOIBounds", spec := "tOIBounds", apart := false }
def TOIBoundsSaid : Prop := tOIBoundsRow.holds Try.pinned (OpenSpec.ofChange tOIBoundsSpec)

/-- ITS FALSE NEIGHBOUR: 'it returns false'. Refute it at one input. -/
def tOIBoundsWrong : ChangeSpec := { name := "tOIBounds", fn := fun _ => fun
  | [d] => { results := [.lit (.bool false)], args := [d] }
  | _ => none }
def TOIBoundsWrongFalsely : Prop := tOIBoundsRow.holds Try.pinned (OpenSpec.ofChange tOIBoundsWrong)

/- THE SECOND FORM. 'bulk': how many values and letters a reading holds, each counted each time it is reached (what is shared counts as often as it is met; a slice's spare places count too). A statement '..UptoSaid' is the law's where the arguments, and the package variables that the reading takes, are together of bulk at most 1048576: NARROWER than '..Said'. Prove '..Said' where nothing that the law and all that it calls make is longer than what came in: it says more and counts as full. Else prove '..UptoSaid'. A law counts once. -/
mutual
def uptoBulk {H : Type} : DataW H → Nat
  | .lit (.string bytes) => bytes.length + 1
  | .lit _ => 1
  | .nil => 1
  | .ptr d => uptoBulk d + 1
  | .slice elems spare => uptoBulkAll elems + uptoBulkAll spare + 1
  | .agg parts => uptoBulkAll parts + 1
  | .iface _ d => uptoBulk d + 1
  | .map entries => uptoBulkEntries entries + 1
  | .held _ => 1
def uptoBulkAll {H : Type} : List (DataW H) → Nat
  | [] => 0
  | d :: r => uptoBulk d + uptoBulkAll r
def uptoBulkEntries {H : Type} : List (Lit × DataW H) → Nat
  | [] => 0
  | x :: r => uptoBulkEntry x + uptoBulkEntries r
def uptoBulkEntry {H : Type} : Lit × DataW H → Nat
  | (.string bytes, d) => bytes.length + uptoBulk d + 1
  | (_, d) => uptoBulk d + 1
 end
def uptoSmall : (H : Type) → List (DataW H) → Bool := fun _ ds => decide (uptoBulkAll ds ≤ 1048576)
def OpenSpec.upto (s : _root_.Go.ChangeSpec) : _root_.Go.OpenSpec := { _root_.Go.OpenSpec.ofChange s with cond := some uptoSmall }

/-- 'caromlaw19.TOIStart', WHERE WHAT IT READS IS OF BULK AT MOST 1048576: true; the input reads as it did. -/
def tOIStartUptoRow : OpenClaim := { program := "ytipcbcngedpmkaa", sum := "29c2eef6a503eca780a8f79d41f8927621c7eddd1181751204bd6ad11f6c8bbe", func := "carom/caromlaw19.TOIStart", spec := "tOIStart", apart := false, narrowed := true }
def TOIStartUptoSaid : Prop := tOIStartUptoRow.holds Try.pinned (OpenSpec.upto tOIStartSpec)

/-- 'caromlaw19.TOISymmetry', WHERE WHAT IT READS IS OF BULK AT MOST 1048576: true; the input reads as it did. -/
def tOISymmetryUptoRow : OpenClaim := { program := "ytipcbcngedpmkaa", sum := "29c2eef6a503eca780a8f79d41f8927621c7eddd1181751204bd6ad11f6c8bbe", func := "carom/caromlaw19.TOISymmetry", spec := "tOISymmetry", apart := false, narrowed := true }
def TOISymmetryUptoSaid : Prop := tOISymmetryUptoRow.holds Try.pinned (OpenSpec.upto tOISymmetrySpec)

/-- 'caromlaw19.TOIBounds', WHERE WHAT IT READS IS OF BULK AT MOST 1048576: true; the input reads as it did. -/
def tOIBoundsUptoRow : OpenClaim := { program := "ytipcbcngedpmkaa", sum := "29c2eef6a503eca780a8f79d41f8927621c7eddd1181751204bd6ad11f6c8bbe", func := "carom/caromlaw19.TOIBounds", spec := "tOIBounds", apart := false, narrowed := true }
def TOIBoundsUptoSaid : Prop := tOIBoundsUptoRow.holds Try.pinned (OpenSpec.upto tOIBoundsSpec)

end Rows
end Go.Proofs.Ytipcbcngedpmkaa
