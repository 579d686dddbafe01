/- ShouldCollide and Connected answer as the reference does, whichever fixture or body is named first. -/
import Derived.Test.YtaahgblkmajceaaGreatRows
import Derived.Test.YtaahgblkmajceaaGreatBqR
import Derived.Test.YtaahgblkmajceaaGreatKi1
import Derived.Test.YtaahgblkmajceaaGreatBh1
import Derived.WalkKit
import Derived.ProofKit
import Derived.OpenShut
namespace Go.Proofs.YtaahgblkmajceaaGreat.broadphaseFiltering
open Go.ChangeShapes Go.WideShapes Go.ChangeAt Go.RowKit Opn
set_option linter.unusedVariables false

theorem own : ownKnob Tryz.prog.godebug = none := by kernel_rfl
theorem laidOut : laidOutB Tryz.prog = true := by kernel_rfl

set_option maxRecDepth 100000 in
theorem lifted (os : Os) (started : os.Started) (H : Type) (enc : TypeId × Value → H) :
    ReturnsInHanded {} Tryz.checked os 6 .any (Rows.broadphaseFilteringSpec.pre6 enc Tryz.prog Tryz.f6 Rows.broadphaseFilteringRow.domain false) (Rows.broadphaseFilteringSpec.post enc Tryz.prog Tryz.f6 false true false false) := by
  refine returnsInHanded_of_change (C := Tryz.checked) own started (by kernel_rfl) Tryz.func6
    (ChangeSpec.witness6 (enc := enc) (C := Tryz.checked) false ⟨#[], #[.agg #[.int .i64 0, .int .i64 0, .slice none 0 0, .int .i64 0, .int .i64 0, .int .i64 0, .bool false, .int .i64 0, .int .i64 0, .int .i64 0], .agg #[.int .i64 0, .int .i64 0, .slice none 0 0, .int .i64 0, .int .i64 0, .int .i64 0, .bool false, .int .i64 0, .int .i64 0, .int .i64 0], .slice none 0 0, .int .i64 0, .int .i64 0], []⟩ 8 (by kernel_rfl) (by kernel_rfl) (by kernel_rfl) (by kernel_rfl)) ?_
  intro W base args ds gs before hval0 hW hcnd _
  have hval : ∀ (j : Nat) t v, Tryz.f6.params[j]? = some t → args[j]? = some v → Value.okWide Tryz.prog W .any base t v := hval0
  have hW' := hW
  obtain ⟨p, q, hA0, hV, rfl, hfz, hnd⟩ := hW
  have hA : DataW.TrodAll enc Tryz.prog W 0 (fun _ => true) true Tryz.f6.params.toList args.toList ds p := hA0
  rw [Tryz.params6] at hA hval
  obtain ⟨v0, vs0, d0, ds0, p0, q0, hargs, rfl, rfl, h0, r0⟩ := trodAll_cons hA
  obtain ⟨v1, vs1, d1, ds1, p1, q1, rfl, rfl, rfl, h1, r1⟩ := trodAll_cons r0
  obtain ⟨v2, vs2, d2, ds2, p2, q2, rfl, rfl, rfl, h2, r2⟩ := trodAll_cons r1
  obtain ⟨v3, vs3, d3, ds3, p3, q3, rfl, rfl, rfl, h3, r3⟩ := trodAll_cons r2
  obtain ⟨v4, vs4, d4, ds4, p4, q4, rfl, rfl, rfl, h4, r4⟩ := trodAll_cons r3
  obtain ⟨rfl, rfl, rfl⟩ := trodAll_nil r4
  obtain rfl : args = #[v0, v1, v2, v3, v4] := by cases args; simp_all
  obtain ⟨rfl, rfl⟩ := trodVars_none hV
  obtain ⟨cs0, rfl, fu0, hs0⟩ := arg_struct Tryz.underlying57 h0 (hval 0 57 v0 rfl rfl)
  obtain ⟨f0, rfl, hp0⟩ := rd_FxA hs0
  obtain ⟨cs1, rfl, fu1, hs1⟩ := arg_struct Tryz.underlying57 h1 (hval 1 57 v1 rfl rfl)
  obtain ⟨f1, rfl, hp1⟩ := rd_FxA hs1
  obtain ⟨fu2, hs2⟩ := arg_slice Tryz.underlying23 h2 (hval 2 23 v2 rfl rfl)
  obtain ⟨A2, cap2, ps2, e2, hl2, hc2, hp2, hnil2⟩ := rd_els 24 (jnQ) Tryz.underlying23 (by kernel_rfl) (by decide) (fun m ci y hy => rd_Jnt hy) hs2
  obtain rfl : v2 = _ := by simpa using e2
  obtain ⟨a3, rfl, ba3⟩ := one_int Tryz.underlying3 (hval 3 3 v3 rfl rfl)
  obtain ⟨a4, rfl, ba4⟩ := one_int Tryz.underlying3 (hval 4 3 v4 rfl rfl)
  clear hA0 hval0 hval
  simp only [List.append_nil] at hW'
  refine (walk_BroadphaseFiltering f0 f1 A2 cap2 ps2 a3 a4 W hp0 hp1 hp2).mono fun e W' ⟨he, hb⟩ => ?_
  subst he
  exact ⟨_, rfl, law_post laidOut hW' rfl rfl (by kernel_rfl) Tryz.underlying4 (by kernel_rfl) hb⟩

theorem over : Rows.broadphaseFilteringRow.holds Tryz.pinned (OpenSpec.ofChange Rows.broadphaseFilteringSpec) :=
  OpenClaim.holds_of_wide 6 Tryz.f6 rfl rfl rfl rfl rfl rfl rfl ⟨rfl, rfl, rfl, rfl, rfl⟩ rfl rfl rfl rfl rfl (by kernel_rfl) Tryz.func6 (by kernel_rfl)
    (of_decide_eq_true (by kernel_rfl)) (by unfold Func.isWrapper; first | (rw [if_pos (by decide +kernel)]; kernel_rfl) | (rw [if_neg (by decide +kernel)]; exact ⟨rfl, rfl⟩))
    (fun os started H enc _ => lifted os started H enc)

/-- The statement. -/
theorem proved : Rows.BroadphaseFilteringSaid :=
  over
#print axioms proved
end Go.Proofs.YtaahgblkmajceaaGreat.broadphaseFiltering
