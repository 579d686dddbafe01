/- FixtureAt returns the first fixture that contains the point, and every contained point lies in the bounding box, expanded by 2, for every body of at most 8 fixtures with at most 20 vertices each. -/
import Derived.Test.YtdmcdicphohlfaaGreatRows
import Derived.Test.YtdmcdicphohlfaaGreatBkZ
import Derived.Test.YtdmcdicphohlfaaGreatKi1
import Derived.Test.YtdmcdicphohlfaaGreatBkB
import Derived.WalkKit
import Derived.ProofKit
import Derived.OpenShut
namespace Go.Proofs.YtdmcdicphohlfaaGreat.bodyFixtureAt
open Go.ChangeShapes Go.WideShapes Go.ChangeAt Go.RowKit Opn
set_option linter.unusedVariables false

theorem own : ownKnob Tryz.prog.godebug = none := by kernel_rfl
theorem laidOut : laidOutB Tryz.prog = true := by kernel_rfl

set_option maxRecDepth 100000 in
theorem lifted (os : Os) (started : os.Started) (H : Type) (enc : TypeId × Value → H) :
    ReturnsInHanded {} Tryz.checked os 8 .any (Rows.bodyFixtureAtSpec.pre6 enc Tryz.prog Tryz.f8 Rows.bodyFixtureAtRow.domain false) (Rows.bodyFixtureAtSpec.post enc Tryz.prog Tryz.f8 false true false false) := by
  refine returnsInHanded_of_change (C := Tryz.checked) own started (by kernel_rfl) Tryz.func8
    (ChangeSpec.witness6 (enc := enc) (C := Tryz.checked) false ⟨#[], #[.agg #[.int .i64 0, .int .i64 0, .int .i64 0, .int .i64 0, .int .i64 0, .int .i64 0, .int .i64 0, .int .i64 0, .int .i64 0, .int .i64 0, .int .i64 0, .int .i64 0, .int .i64 0, .int .i64 0, .bool false, .bool false, .bool false, .bool false, .int .i64 0, .slice none 0 0], .agg #[.int .i64 0, .int .i64 0]], []⟩ 8 (by kernel_rfl) (by kernel_rfl) (by kernel_rfl) (by kernel_rfl)) ?_
  intro W base args ds gs before hval0 hW hcnd _
  have hval : ∀ (j : Nat) t v, Tryz.f8.params[j]? = some t → args[j]? = some v → Value.okWide Tryz.prog W .any base t v := hval0
  have hW' := hW
  obtain ⟨p, q, hA0, hV, rfl, hfz, hnd⟩ := hW
  have hA : DataW.TrodAll enc Tryz.prog W 0 (fun _ => true) true Tryz.f8.params.toList args.toList ds p := hA0
  rw [Tryz.params8] at hA hval
  obtain ⟨v0, vs0, d0, ds0, p0, q0, hargs, rfl, rfl, h0, r0⟩ := trodAll_cons hA
  obtain ⟨v1, vs1, d1, ds1, p1, q1, rfl, rfl, rfl, h1, r1⟩ := trodAll_cons r0
  obtain ⟨rfl, rfl, rfl⟩ := trodAll_nil r1
  obtain rfl : args = #[v0, v1] := by cases args; simp_all
  obtain ⟨rfl, rfl⟩ := trodVars_none hV
  obtain ⟨cs0, rfl, fu0, hs0⟩ := arg_struct Tryz.underlying29 h0 (hval 0 29 v0 rfl rfl)
  obtain ⟨f0, rfl, hp0⟩ := rd_BdA hs0
  obtain ⟨cs1, rfl, F1_0⟩ := open_flat (ts := [3, 3]) (by kernel_rfl) (by kernel_rfl) (by kernel_rfl) (hval 1 24 v1 rfl rfl)
  obtain ⟨c1_0, cs1_0, rfl, C1_0, F1_1⟩ := fits_cons F1_0
  obtain ⟨a1_0, rfl, ba1_0⟩ := cell_int Tryz.underlying3 C1_0
  obtain ⟨c1_1, cs1_1, rfl, C1_1, F1_2⟩ := fits_cons F1_1
  obtain ⟨a1_1, rfl, ba1_1⟩ := cell_int Tryz.underlying3 C1_1
  obtain rfl := fits_nil F1_2
  clear hA0 hval0 hval
  simp only [List.append_nil] at hW'
  refine (walk_BodyFixtureAt f0 a1_0 a1_1 W hp0).mono fun e W' ⟨he, hb⟩ => ?_
  subst he
  exact ⟨_, rfl, law_post laidOut hW' rfl rfl (by kernel_rfl) Tryz.underlying4 (by kernel_rfl) hb⟩

theorem over : Rows.bodyFixtureAtRow.holds Tryz.pinned (OpenSpec.ofChange Rows.bodyFixtureAtSpec) :=
  OpenClaim.holds_of_wide 8 Tryz.f8 rfl rfl rfl rfl rfl rfl rfl ⟨rfl, rfl, rfl, rfl, rfl⟩ rfl rfl rfl rfl rfl (by kernel_rfl) Tryz.func8 (by kernel_rfl)
    (of_decide_eq_true (by kernel_rfl)) (by unfold Func.isWrapper; first | (rw [if_pos (by decide +kernel)]; kernel_rfl) | (rw [if_neg (by decide +kernel)]; exact ⟨rfl, rfl⟩))
    (fun os started H enc _ => lifted os started H enc)

/-- The statement. -/
theorem proved : Rows.BodyFixtureAtSaid :=
  over
#print axioms proved
end Go.Proofs.YtdmcdicphohlfaaGreat.bodyFixtureAt
