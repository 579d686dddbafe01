/-
  No cell of these rows narrows 'for every input' (looked for: loops, veiled, ifaces, maps, wideKeys, modest, calm, conditions, laid).
  DERIVED. THE GIVEN ROWS OF THIS SEAT. 8 by the template 'for every input the law returns true; each argument reads behind the call as it read before'; 0 by the template 'total and deterministic' (their statements: YtdmcdicphohlfaaGreatTotals.lean).
  GIVEN WITH THE SEED: the statements are not yours to turn. If you find one false, say at which input.
  Laid BY PROGRAM, IN A SANDBOX (cutbox-rows.mjs): the forced cells as the released guide's own fill.sh prints them over the translation e054442c9792479a… (all of the seat's roots in one cut). By AI agents, Wed Nov 11 2026. No macro, syntax, notation, axiom, sorry.
-/
import Derived.Test.YtdmcdicphohlfaaGreatChecked
import GoSem.Claim
import GoSem.ClaimJoined
import GoSem.ClaimMapViews
import Derived.JoinedTies
import Derived.KernelRfl
namespace Go.Proofs.YtdmcdicphohlfaaGreat
/- THE CELL 'sum', in the pinned program and in every row, IS THE sha256 OF THE DUMP (.gsa) THAT YtdmcdicphohlfaaGreatProg.lean LOADS. Nothing in Lean hashes anything: it is a label: what it is worth is what the hold of that sum in a sandbox is worth. -/
noncomputable def Tryz.pinned : Pinned := { name := "ytdmcdicphohlfaagreat", sum := "e054442c9792479a6ed19fc60bf1326f16432c0c3df111631ccf56ef17dda172", checked := Tryz.checked }
namespace Rows
def none {H : Type} : Left H := { results := [], args := [] }

/-- 'caromlaw23.BodyValidation': WHATEVER THE INPUT: true; the input reads as it did. -/
def bodyValidationSpec : ChangeSpec := { name := "bodyValidation", fn := fun _ => fun
  | [d1, d2] => { results := [.lit (.bool true)], args := [d1, d2] }
  | _ => none }
def bodyValidationRow : OpenClaim := { program := "ytdmcdicphohlfaagreat", sum := "e054442c9792479a6ed19fc60bf1326f16432c0c3df111631ccf56ef17dda172", func := "carom/caromlaw23.BodyValidation", spec := "bodyValidation", unfollowed := true, recurses := true, apart := false }
def BodyValidationSaid : Prop := bodyValidationRow.holds Tryz.pinned (OpenSpec.ofChange bodyValidationSpec)

/-- ITS FALSE NEIGHBOUR: 'it returns false'. Refute it at one input. -/
def bodyValidationWrong : ChangeSpec := { name := "bodyValidation", fn := fun _ => fun
  | [d1, d2] => { results := [.lit (.bool false)], args := [d1, d2] }
  | _ => none }
def BodyValidationWrongFalsely : Prop := bodyValidationRow.holds Tryz.pinned (OpenSpec.ofChange bodyValidationWrong)

/-- 'caromlaw23.BodyProperties': WHATEVER THE INPUT: true; the input reads as it did. -/
def bodyPropertiesSpec : ChangeSpec := { name := "bodyProperties", fn := fun _ => fun
  | [d1, d2] => { results := [.lit (.bool true)], args := [d1, d2] }
  | _ => none }
def bodyPropertiesRow : OpenClaim := { program := "ytdmcdicphohlfaagreat", sum := "e054442c9792479a6ed19fc60bf1326f16432c0c3df111631ccf56ef17dda172", func := "carom/caromlaw23.BodyProperties", spec := "bodyProperties", unfollowed := true, recurses := true, apart := false }
def BodyPropertiesSaid : Prop := bodyPropertiesRow.holds Tryz.pinned (OpenSpec.ofChange bodyPropertiesSpec)

/-- ITS FALSE NEIGHBOUR: 'it returns false'. Refute it at one input. -/
def bodyPropertiesWrong : ChangeSpec := { name := "bodyProperties", fn := fun _ => fun
  | [d1, d2] => { results := [.lit (.bool false)], args := [d1, d2] }
  | _ => none }
def BodyPropertiesWrongFalsely : Prop := bodyPropertiesRow.holds Tryz.pinned (OpenSpec.ofChange bodyPropertiesWrong)

/-- 'caromlaw23.BodyImpulses': WHATEVER THE INPUT: true; the input reads as it did. -/
def bodyImpulsesSpec : ChangeSpec := { name := "bodyImpulses", fn := fun _ => fun
  | [d1, d2, d3, d4] => { results := [.lit (.bool true)], args := [d1, d2, d3, d4] }
  | _ => none }
def bodyImpulsesRow : OpenClaim := { program := "ytdmcdicphohlfaagreat", sum := "e054442c9792479a6ed19fc60bf1326f16432c0c3df111631ccf56ef17dda172", func := "carom/caromlaw23.BodyImpulses", spec := "bodyImpulses", unfollowed := true, recurses := true, apart := false }
def BodyImpulsesSaid : Prop := bodyImpulsesRow.holds Tryz.pinned (OpenSpec.ofChange bodyImpulsesSpec)

/-- ITS FALSE NEIGHBOUR: 'it returns false'. Refute it at one input. -/
def bodyImpulsesWrong : ChangeSpec := { name := "bodyImpulses", fn := fun _ => fun
  | [d1, d2, d3, d4] => { results := [.lit (.bool false)], args := [d1, d2, d3, d4] }
  | _ => none }
def BodyImpulsesWrongFalsely : Prop := bodyImpulsesRow.holds Tryz.pinned (OpenSpec.ofChange bodyImpulsesWrong)

/-- 'caromlaw23.BodyImpulseValid': WHATEVER THE INPUT: true; the input reads as it did. -/
def bodyImpulseValidSpec : ChangeSpec := { name := "bodyImpulseValid", fn := fun _ => fun
  | [d1, d2, d3, d4] => { results := [.lit (.bool true)], args := [d1, d2, d3, d4] }
  | _ => none }
def bodyImpulseValidRow : OpenClaim := { program := "ytdmcdicphohlfaagreat", sum := "e054442c9792479a6ed19fc60bf1326f16432c0c3df111631ccf56ef17dda172", func := "carom/caromlaw23.BodyImpulseValid", spec := "bodyImpulseValid", unfollowed := true, recurses := true, apart := false }
def BodyImpulseValidSaid : Prop := bodyImpulseValidRow.holds Tryz.pinned (OpenSpec.ofChange bodyImpulseValidSpec)

/-- ITS FALSE NEIGHBOUR: 'it returns false'. Refute it at one input. -/
def bodyImpulseValidWrong : ChangeSpec := { name := "bodyImpulseValid", fn := fun _ => fun
  | [d1, d2, d3, d4] => { results := [.lit (.bool false)], args := [d1, d2, d3, d4] }
  | _ => none }
def BodyImpulseValidWrongFalsely : Prop := bodyImpulseValidRow.holds Tryz.pinned (OpenSpec.ofChange bodyImpulseValidWrong)

/-- 'caromlaw23.BodyOppositeImpulse': WHATEVER THE INPUT: true; the input reads as it did. -/
def bodyOppositeImpulseSpec : ChangeSpec := { name := "bodyOppositeImpulse", fn := fun _ => fun
  | [d1, d2, d3, d4] => { results := [.lit (.bool true)], args := [d1, d2, d3, d4] }
  | _ => none }
def bodyOppositeImpulseRow : OpenClaim := { program := "ytdmcdicphohlfaagreat", sum := "e054442c9792479a6ed19fc60bf1326f16432c0c3df111631ccf56ef17dda172", func := "carom/caromlaw23.BodyOppositeImpulse", spec := "bodyOppositeImpulse", unfollowed := true, recurses := true, apart := false }
def BodyOppositeImpulseSaid : Prop := bodyOppositeImpulseRow.holds Tryz.pinned (OpenSpec.ofChange bodyOppositeImpulseSpec)

/-- ITS FALSE NEIGHBOUR: 'it returns false'. Refute it at one input. -/
def bodyOppositeImpulseWrong : ChangeSpec := { name := "bodyOppositeImpulse", fn := fun _ => fun
  | [d1, d2, d3, d4] => { results := [.lit (.bool false)], args := [d1, d2, d3, d4] }
  | _ => none }
def BodyOppositeImpulseWrongFalsely : Prop := bodyOppositeImpulseRow.holds Tryz.pinned (OpenSpec.ofChange bodyOppositeImpulseWrong)

/-- 'caromlaw23.BodyFixtureAt': WHATEVER THE INPUT: true; the input reads as it did. -/
def bodyFixtureAtSpec : ChangeSpec := { name := "bodyFixtureAt", fn := fun _ => fun
  | [d1, d2] => { results := [.lit (.bool true)], args := [d1, d2] }
  | _ => none }
def bodyFixtureAtRow : OpenClaim := { program := "ytdmcdicphohlfaagreat", sum := "e054442c9792479a6ed19fc60bf1326f16432c0c3df111631ccf56ef17dda172", func := "carom/caromlaw23.BodyFixtureAt", spec := "bodyFixtureAt", unfollowed := true, recurses := true, apart := false }
def BodyFixtureAtSaid : Prop := bodyFixtureAtRow.holds Tryz.pinned (OpenSpec.ofChange bodyFixtureAtSpec)

/-- ITS FALSE NEIGHBOUR: 'it returns false'. Refute it at one input. -/
def bodyFixtureAtWrong : ChangeSpec := { name := "bodyFixtureAt", fn := fun _ => fun
  | [d1, d2] => { results := [.lit (.bool false)], args := [d1, d2] }
  | _ => none }
def BodyFixtureAtWrongFalsely : Prop := bodyFixtureAtRow.holds Tryz.pinned (OpenSpec.ofChange bodyFixtureAtWrong)

/-- 'caromlaw23.BodyCloneEqual': WHATEVER THE INPUT: true; the input reads as it did. -/
def bodyCloneEqualSpec : ChangeSpec := { name := "bodyCloneEqual", fn := fun _ => fun
  | [d1, d2, d3] => { results := [.lit (.bool true)], args := [d1, d2, d3] }
  | _ => none }
def bodyCloneEqualRow : OpenClaim := { program := "ytdmcdicphohlfaagreat", sum := "e054442c9792479a6ed19fc60bf1326f16432c0c3df111631ccf56ef17dda172", func := "carom/caromlaw23.BodyCloneEqual", spec := "bodyCloneEqual", unfollowed := true, recurses := true, apart := false }
def BodyCloneEqualSaid : Prop := bodyCloneEqualRow.holds Tryz.pinned (OpenSpec.ofChange bodyCloneEqualSpec)

/-- ITS FALSE NEIGHBOUR: 'it returns false'. Refute it at one input. -/
def bodyCloneEqualWrong : ChangeSpec := { name := "bodyCloneEqual", fn := fun _ => fun
  | [d1, d2, d3] => { results := [.lit (.bool false)], args := [d1, d2, d3] }
  | _ => none }
def BodyCloneEqualWrongFalsely : Prop := bodyCloneEqualRow.holds Tryz.pinned (OpenSpec.ofChange bodyCloneEqualWrong)

/-- 'caromlaw22.BroadphaseMatchesSweep': WHATEVER THE INPUT: true; the input reads as it did. -/
def broadphaseMatchesSweepSpec : ChangeSpec := { name := "broadphaseMatchesSweep", fn := fun _ => fun
  | [d1, d2] => { results := [.lit (.bool true)], args := [d1, d2] }
  | _ => none }
def broadphaseMatchesSweepRow : OpenClaim := { program := "ytdmcdicphohlfaagreat", sum := "e054442c9792479a6ed19fc60bf1326f16432c0c3df111631ccf56ef17dda172", func := "carom/caromlaw22.BroadphaseMatchesSweep", spec := "broadphaseMatchesSweep", unfollowed := true, recurses := true, apart := false }
def BroadphaseMatchesSweepSaid : Prop := broadphaseMatchesSweepRow.holds Tryz.pinned (OpenSpec.ofChange broadphaseMatchesSweepSpec)

/-- ITS FALSE NEIGHBOUR: 'it returns false'. Refute it at one input. -/
def broadphaseMatchesSweepWrong : ChangeSpec := { name := "broadphaseMatchesSweep", fn := fun _ => fun
  | [d1, d2] => { results := [.lit (.bool false)], args := [d1, d2] }
  | _ => none }
def BroadphaseMatchesSweepWrongFalsely : Prop := broadphaseMatchesSweepRow.holds Tryz.pinned (OpenSpec.ofChange broadphaseMatchesSweepWrong)

/- THE SECOND FORM. 'bulk': how many values and letters a reading holds, each counted each time it is reached (what is shared counts as often as it is met; a slice's spare places count too). A statement '..UptoSaid' is the law's where the arguments, and the package variables that the reading takes, are together of bulk at most 1048576: NARROWER than '..Said'. Prove '..Said' where nothing that the law and all that it calls make is longer than what came in: it says more and counts as full. Else prove '..UptoSaid'. A law counts once. -/
mutual
def uptoBulk {H : Type} : DataW H → Nat
  | .lit (.string bytes) => bytes.length + 1
  | .lit _ => 1
  | .nil => 1
  | .ptr d => uptoBulk d + 1
  | .slice elems spare => uptoBulkAll elems + uptoBulkAll spare + 1
  | .agg parts => uptoBulkAll parts + 1
  | .iface _ d => uptoBulk d + 1
  | .map entries => uptoBulkEntries entries + 1
  | .held _ => 1
def uptoBulkAll {H : Type} : List (DataW H) → Nat
  | [] => 0
  | d :: r => uptoBulk d + uptoBulkAll r
def uptoBulkEntries {H : Type} : List (Lit × DataW H) → Nat
  | [] => 0
  | x :: r => uptoBulkEntry x + uptoBulkEntries r
def uptoBulkEntry {H : Type} : Lit × DataW H → Nat
  | (.string bytes, d) => bytes.length + uptoBulk d + 1
  | (_, d) => uptoBulk d + 1
 end
def uptoSmall : (H : Type) → List (DataW H) → Bool := fun _ ds => decide (uptoBulkAll ds ≤ 1048576)
def OpenSpec.upto (s : _root_.Go.ChangeSpec) : _root_.Go.OpenSpec := { _root_.Go.OpenSpec.ofChange s with cond := some uptoSmall }

/-- 'caromlaw23.BodyValidation', WHERE WHAT IT READS IS OF BULK AT MOST 1048576: true; the input reads as it did. -/
def bodyValidationUptoRow : OpenClaim := { program := "ytdmcdicphohlfaagreat", sum := "e054442c9792479a6ed19fc60bf1326f16432c0c3df111631ccf56ef17dda172", func := "carom/caromlaw23.BodyValidation", spec := "bodyValidation", unfollowed := true, recurses := true, apart := false, narrowed := true }
def BodyValidationUptoSaid : Prop := bodyValidationUptoRow.holds Tryz.pinned (OpenSpec.upto bodyValidationSpec)

/-- 'caromlaw23.BodyProperties', WHERE WHAT IT READS IS OF BULK AT MOST 1048576: true; the input reads as it did. -/
def bodyPropertiesUptoRow : OpenClaim := { program := "ytdmcdicphohlfaagreat", sum := "e054442c9792479a6ed19fc60bf1326f16432c0c3df111631ccf56ef17dda172", func := "carom/caromlaw23.BodyProperties", spec := "bodyProperties", unfollowed := true, recurses := true, apart := false, narrowed := true }
def BodyPropertiesUptoSaid : Prop := bodyPropertiesUptoRow.holds Tryz.pinned (OpenSpec.upto bodyPropertiesSpec)

/-- 'caromlaw23.BodyImpulses', WHERE WHAT IT READS IS OF BULK AT MOST 1048576: true; the input reads as it did. -/
def bodyImpulsesUptoRow : OpenClaim := { program := "ytdmcdicphohlfaagreat", sum := "e054442c9792479a6ed19fc60bf1326f16432c0c3df111631ccf56ef17dda172", func := "carom/caromlaw23.BodyImpulses", spec := "bodyImpulses", unfollowed := true, recurses := true, apart := false, narrowed := true }
def BodyImpulsesUptoSaid : Prop := bodyImpulsesUptoRow.holds Tryz.pinned (OpenSpec.upto bodyImpulsesSpec)

/-- 'caromlaw23.BodyImpulseValid', WHERE WHAT IT READS IS OF BULK AT MOST 1048576: true; the input reads as it did. -/
def bodyImpulseValidUptoRow : OpenClaim := { program := "ytdmcdicphohlfaagreat", sum := "e054442c9792479a6ed19fc60bf1326f16432c0c3df111631ccf56ef17dda172", func := "carom/caromlaw23.BodyImpulseValid", spec := "bodyImpulseValid", unfollowed := true, recurses := true, apart := false, narrowed := true }
def BodyImpulseValidUptoSaid : Prop := bodyImpulseValidUptoRow.holds Tryz.pinned (OpenSpec.upto bodyImpulseValidSpec)

/-- 'caromlaw23.BodyOppositeImpulse', WHERE WHAT IT READS IS OF BULK AT MOST 1048576: true; the input reads as it did. -/
def bodyOppositeImpulseUptoRow : OpenClaim := { program := "ytdmcdicphohlfaagreat", sum := "e054442c9792479a6ed19fc60bf1326f16432c0c3df111631ccf56ef17dda172", func := "carom/caromlaw23.BodyOppositeImpulse", spec := "bodyOppositeImpulse", unfollowed := true, recurses := true, apart := false, narrowed := true }
def BodyOppositeImpulseUptoSaid : Prop := bodyOppositeImpulseUptoRow.holds Tryz.pinned (OpenSpec.upto bodyOppositeImpulseSpec)

/-- 'caromlaw23.BodyFixtureAt', WHERE WHAT IT READS IS OF BULK AT MOST 1048576: true; the input reads as it did. -/
def bodyFixtureAtUptoRow : OpenClaim := { program := "ytdmcdicphohlfaagreat", sum := "e054442c9792479a6ed19fc60bf1326f16432c0c3df111631ccf56ef17dda172", func := "carom/caromlaw23.BodyFixtureAt", spec := "bodyFixtureAt", unfollowed := true, recurses := true, apart := false, narrowed := true }
def BodyFixtureAtUptoSaid : Prop := bodyFixtureAtUptoRow.holds Tryz.pinned (OpenSpec.upto bodyFixtureAtSpec)

/-- 'caromlaw23.BodyCloneEqual', WHERE WHAT IT READS IS OF BULK AT MOST 1048576: true; the input reads as it did. -/
def bodyCloneEqualUptoRow : OpenClaim := { program := "ytdmcdicphohlfaagreat", sum := "e054442c9792479a6ed19fc60bf1326f16432c0c3df111631ccf56ef17dda172", func := "carom/caromlaw23.BodyCloneEqual", spec := "bodyCloneEqual", unfollowed := true, recurses := true, apart := false, narrowed := true }
def BodyCloneEqualUptoSaid : Prop := bodyCloneEqualUptoRow.holds Tryz.pinned (OpenSpec.upto bodyCloneEqualSpec)

/-- 'caromlaw22.BroadphaseMatchesSweep', WHERE WHAT IT READS IS OF BULK AT MOST 1048576: true; the input reads as it did. -/
def broadphaseMatchesSweepUptoRow : OpenClaim := { program := "ytdmcdicphohlfaagreat", sum := "e054442c9792479a6ed19fc60bf1326f16432c0c3df111631ccf56ef17dda172", func := "carom/caromlaw22.BroadphaseMatchesSweep", spec := "broadphaseMatchesSweep", unfollowed := true, recurses := true, apart := false, narrowed := true }
def BroadphaseMatchesSweepUptoSaid : Prop := broadphaseMatchesSweepUptoRow.holds Tryz.pinned (OpenSpec.upto broadphaseMatchesSweepSpec)

end Rows
end Go.Proofs.YtdmcdicphohlfaaGreat
