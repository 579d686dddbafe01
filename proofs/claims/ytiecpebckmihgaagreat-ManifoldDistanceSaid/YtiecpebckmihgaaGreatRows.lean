/-
  No cell of these rows narrows 'for every input' (looked for: loops, veiled, ifaces, maps, wideKeys, modest, calm, conditions, laid).
  DERIVED. THE GIVEN ROWS OF THIS SEAT. 3 by the template 'for every input the law returns true; each argument reads behind the call as it read before'; 0 by the template 'total and deterministic' (their statements: YtiecpebckmihgaaGreatTotals.lean).
  GIVEN WITH THE SEED: the statements are not yours to turn. If you find one false, say at which input.
  Laid BY PROGRAM, IN A SANDBOX (cutbox-rows.mjs): the forced cells as the released guide's own fill.sh prints them over the translation 6f914d6f244f9e27… (all of the seat's roots in one cut). By AI agents, Wed Nov 11 2026. No macro, syntax, notation, axiom, sorry.
-/
import Derived.Test.YtiecpebckmihgaaGreatChecked
import GoSem.Claim
import GoSem.ClaimJoined
import GoSem.ClaimMapViews
import Derived.JoinedTies
import Derived.KernelRfl
namespace Go.Proofs.YtiecpebckmihgaaGreat
/- THE CELL 'sum', in the pinned program and in every row, IS THE sha256 OF THE DUMP (.gsa) THAT YtiecpebckmihgaaGreatProg.lean LOADS. Nothing in Lean hashes anything: it is a label: what it is worth is what the hold of that sum in a sandbox is worth. -/
noncomputable def Tryz.pinned : Pinned := { name := "ytiecpebckmihgaagreat", sum := "6f914d6f244f9e275ecfec6bb870a8493316f160f0841f87df3c40f2fdf0f8ab", checked := Tryz.checked }
namespace Rows
def none {H : Type} : Left H := { results := [], args := [] }

/-- 'caromlaw16.ManifoldPoints': WHATEVER THE INPUT: true; the input reads as it did. -/
def manifoldPointsSpec : ChangeSpec := { name := "manifoldPoints", fn := fun _ => fun
  | [d1, d2, d3, d4] => { results := [.lit (.bool true)], args := [d1, d2, d3, d4] }
  | _ => none }
def manifoldPointsRow : OpenClaim := { program := "ytiecpebckmihgaagreat", sum := "6f914d6f244f9e275ecfec6bb870a8493316f160f0841f87df3c40f2fdf0f8ab", func := "carom/caromlaw16.ManifoldPoints", spec := "manifoldPoints", unfollowed := true, recurses := true, apart := false }
def ManifoldPointsSaid : Prop := manifoldPointsRow.holds Tryz.pinned (OpenSpec.ofChange manifoldPointsSpec)

/-- ITS FALSE NEIGHBOUR: 'it returns false'. Refute it at one input. -/
def manifoldPointsWrong : ChangeSpec := { name := "manifoldPoints", fn := fun _ => fun
  | [d1, d2, d3, d4] => { results := [.lit (.bool false)], args := [d1, d2, d3, d4] }
  | _ => none }
def ManifoldPointsWrongFalsely : Prop := manifoldPointsRow.holds Tryz.pinned (OpenSpec.ofChange manifoldPointsWrong)

/-- 'caromlaw16.ManifoldCollide': WHATEVER THE INPUT: true; the input reads as it did. -/
def manifoldCollideSpec : ChangeSpec := { name := "manifoldCollide", fn := fun _ => fun
  | [d1, d2, d3, d4] => { results := [.lit (.bool true)], args := [d1, d2, d3, d4] }
  | _ => none }
def manifoldCollideRow : OpenClaim := { program := "ytiecpebckmihgaagreat", sum := "6f914d6f244f9e275ecfec6bb870a8493316f160f0841f87df3c40f2fdf0f8ab", func := "carom/caromlaw16.ManifoldCollide", spec := "manifoldCollide", unfollowed := true, recurses := true, apart := false }
def ManifoldCollideSaid : Prop := manifoldCollideRow.holds Tryz.pinned (OpenSpec.ofChange manifoldCollideSpec)

/-- ITS FALSE NEIGHBOUR: 'it returns false'. Refute it at one input. -/
def manifoldCollideWrong : ChangeSpec := { name := "manifoldCollide", fn := fun _ => fun
  | [d1, d2, d3, d4] => { results := [.lit (.bool false)], args := [d1, d2, d3, d4] }
  | _ => none }
def ManifoldCollideWrongFalsely : Prop := manifoldCollideRow.holds Tryz.pinned (OpenSpec.ofChange manifoldCollideWrong)

/-- 'caromlaw16.ManifoldDistance': WHATEVER THE INPUT: true; the input reads as it did. -/
def manifoldDistanceSpec : ChangeSpec := { name := "manifoldDistance", fn := fun _ => fun
  | [d1, d2, d3, d4] => { results := [.lit (.bool true)], args := [d1, d2, d3, d4] }
  | _ => none }
def manifoldDistanceRow : OpenClaim := { program := "ytiecpebckmihgaagreat", sum := "6f914d6f244f9e275ecfec6bb870a8493316f160f0841f87df3c40f2fdf0f8ab", func := "carom/caromlaw16.ManifoldDistance", spec := "manifoldDistance", unfollowed := true, recurses := true, apart := false }
def ManifoldDistanceSaid : Prop := manifoldDistanceRow.holds Tryz.pinned (OpenSpec.ofChange manifoldDistanceSpec)

/-- ITS FALSE NEIGHBOUR: 'it returns false'. Refute it at one input. -/
def manifoldDistanceWrong : ChangeSpec := { name := "manifoldDistance", fn := fun _ => fun
  | [d1, d2, d3, d4] => { results := [.lit (.bool false)], args := [d1, d2, d3, d4] }
  | _ => none }
def ManifoldDistanceWrongFalsely : Prop := manifoldDistanceRow.holds Tryz.pinned (OpenSpec.ofChange manifoldDistanceWrong)

/- THE SECOND FORM. 'bulk': how many values and letters a reading holds, each counted each time it is reached (what is shared counts as often as it is met; a slice's spare places count too). A statement '..UptoSaid' is the law's where the arguments, and the package variables that the reading takes, are together of bulk at most 1048576: NARROWER than '..Said'. Prove '..Said' where nothing that the law and all that it calls make is longer than what came in: it says more and counts as full. Else prove '..UptoSaid'. A law counts once. -/
mutual
def uptoBulk {H : Type} : DataW H → Nat
  | .lit (.string bytes) => bytes.length + 1
  | .lit _ => 1
  | .nil => 1
  | .ptr d => uptoBulk d + 1
  | .slice elems spare => uptoBulkAll elems + uptoBulkAll spare + 1
  | .agg parts => uptoBulkAll parts + 1
  | .iface _ d => uptoBulk d + 1
  | .map entries => uptoBulkEntries entries + 1
  | .held _ => 1
def uptoBulkAll {H : Type} : List (DataW H) → Nat
  | [] => 0
  | d :: r => uptoBulk d + uptoBulkAll r
def uptoBulkEntries {H : Type} : List (Lit × DataW H) → Nat
  | [] => 0
  | x :: r => uptoBulkEntry x + uptoBulkEntries r
def uptoBulkEntry {H : Type} : Lit × DataW H → Nat
  | (.string bytes, d) => bytes.length + uptoBulk d + 1
  | (_, d) => uptoBulk d + 1
 end
def uptoSmall : (H : Type) → List (DataW H) → Bool := fun _ ds => decide (uptoBulkAll ds ≤ 1048576)
def OpenSpec.upto (s : _root_.Go.ChangeSpec) : _root_.Go.OpenSpec := { _root_.Go.OpenSpec.ofChange s with cond := some uptoSmall }

/-- 'caromlaw16.ManifoldPoints', WHERE WHAT IT READS IS OF BULK AT MOST 1048576: true; the input reads as it did. -/
def manifoldPointsUptoRow : OpenClaim := { program := "ytiecpebckmihgaagreat", sum := "6f914d6f244f9e275ecfec6bb870a8493316f160f0841f87df3c40f2fdf0f8ab", func := "carom/caromlaw16.ManifoldPoints", spec := "manifoldPoints", unfollowed := true, recurses := true, apart := false, narrowed := true }
def ManifoldPointsUptoSaid : Prop := manifoldPointsUptoRow.holds Tryz.pinned (OpenSpec.upto manifoldPointsSpec)

/-- 'caromlaw16.ManifoldCollide', WHERE WHAT IT READS IS OF BULK AT MOST 1048576: true; the input reads as it did. -/
def manifoldCollideUptoRow : OpenClaim := { program := "ytiecpebckmihgaagreat", sum := "6f914d6f244f9e275ecfec6bb870a8493316f160f0841f87df3c40f2fdf0f8ab", func := "carom/caromlaw16.ManifoldCollide", spec := "manifoldCollide", unfollowed := true, recurses := true, apart := false, narrowed := true }
def ManifoldCollideUptoSaid : Prop := manifoldCollideUptoRow.holds Tryz.pinned (OpenSpec.upto manifoldCollideSpec)

/-- 'caromlaw16.ManifoldDistance', WHERE WHAT IT READS IS OF BULK AT MOST 1048576: true; the input reads as it did. -/
def manifoldDistanceUptoRow : OpenClaim := { program := "ytiecpebckmihgaagreat", sum := "6f914d6f244f9e275ecfec6bb870a8493316f160f0841f87df3c40f2fdf0f8ab", func := "carom/caromlaw16.ManifoldDistance", spec := "manifoldDistance", unfollowed := true, recurses := true, apart := false, narrowed := true }
def ManifoldDistanceUptoSaid : Prop := manifoldDistanceUptoRow.holds Tryz.pinned (OpenSpec.upto manifoldDistanceSpec)

end Rows
end Go.Proofs.YtiecpebckmihgaaGreat
