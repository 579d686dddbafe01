/- For every circle and every ray, CastCircle agrees with the reference. -/
import Derived.Test.YtpdhfhcfjdnlpaaRows
import Derived.Test.YtpdhfhcfjdnlpaaRx
import Derived.Test.YtpdhfhcfjdnlpaaKi1
import Derived.WalkKit
import Derived.ProofKit
import Derived.OpenShut
namespace Go.Proofs.Ytpdhfhcfjdnlpaa.raycastCircleExact
open Go.ChangeShapes Go.WideShapes Go.ChangeAt Go.RowKit Opn
set_option linter.unusedVariables false

theorem own : ownKnob Try.prog.godebug = none := by kernel_rfl
theorem laidOut : laidOutB Try.prog = true := by kernel_rfl

set_option maxRecDepth 100000 in
theorem lifted (os : Os) (started : os.Started) (H : Type) (enc : TypeId × Value → H) :
    ReturnsInHanded {} Try.checked os 3 .any (Rows.raycastCircleExactSpec.pre6 enc Try.prog Try.f3 Rows.raycastCircleExactRow.domain false) (Rows.raycastCircleExactSpec.post enc Try.prog Try.f3 false true false false) := by
  refine returnsInHanded_of_change (C := Try.checked) own started (by kernel_rfl) Try.func3
    (ChangeSpec.witness6 (enc := enc) (C := Try.checked) false ⟨#[], #[.agg #[.int .i64 0, .int .i64 0], .int .i64 0, .agg #[.int .i64 0, .int .i64 0, .int .i64 0, .int .i64 0]], []⟩ 8 (by kernel_rfl) (by kernel_rfl) (by kernel_rfl) (by kernel_rfl)) ?_
  intro W base args ds gs before hval0 hW hcnd _
  have hval : ∀ (j : Nat) t v, Try.f3.params[j]? = some t → args[j]? = some v → Value.okWide Try.prog W .any base t v := hval0
  have hW' := hW
  obtain ⟨p, q, hA0, hV, rfl, hfz, hnd⟩ := hW
  have hA : DataW.TrodAll enc Try.prog W 0 (fun _ => true) true Try.f3.params.toList args.toList ds p := hA0
  rw [Try.params3] at hA hval
  obtain ⟨v0, vs0, d0, ds0, p0, q0, hargs, rfl, rfl, h0, r0⟩ := trodAll_cons hA
  obtain ⟨v1, vs1, d1, ds1, p1, q1, rfl, rfl, rfl, h1, r1⟩ := trodAll_cons r0
  obtain ⟨v2, vs2, d2, ds2, p2, q2, rfl, rfl, rfl, h2, r2⟩ := trodAll_cons r1
  obtain ⟨rfl, rfl, rfl⟩ := trodAll_nil r2
  obtain rfl : args = #[v0, v1, v2] := by cases args; simp_all
  obtain ⟨rfl, rfl⟩ := trodVars_none hV
  obtain ⟨cs0, rfl, F0_0⟩ := open_flat (ts := [3, 3]) (by kernel_rfl) (by kernel_rfl) (by kernel_rfl) (hval 0 23 v0 rfl rfl)
  obtain ⟨c0_0, cs0_0, rfl, C0_0, F0_1⟩ := fits_cons F0_0
  obtain ⟨a0_0, rfl, ba0_0⟩ := cell_int Try.underlying3 C0_0
  obtain ⟨c0_1, cs0_1, rfl, C0_1, F0_2⟩ := fits_cons F0_1
  obtain ⟨a0_1, rfl, ba0_1⟩ := cell_int Try.underlying3 C0_1
  obtain rfl := fits_nil F0_2
  obtain ⟨a1, rfl, ba1⟩ := one_int Try.underlying3 (hval 1 3 v1 rfl rfl)
  obtain ⟨cs2, rfl, F2_0⟩ := open_flat (ts := [3, 3, 3, 3]) (by kernel_rfl) (by kernel_rfl) (by kernel_rfl) (hval 2 24 v2 rfl rfl)
  obtain ⟨c2_0, cs2_0, rfl, C2_0, F2_1⟩ := fits_cons F2_0
  obtain ⟨a2_0, rfl, ba2_0⟩ := cell_int Try.underlying3 C2_0
  obtain ⟨c2_1, cs2_1, rfl, C2_1, F2_2⟩ := fits_cons F2_1
  obtain ⟨a2_1, rfl, ba2_1⟩ := cell_int Try.underlying3 C2_1
  obtain ⟨c2_2, cs2_2, rfl, C2_2, F2_3⟩ := fits_cons F2_2
  obtain ⟨a2_2, rfl, ba2_2⟩ := cell_int Try.underlying3 C2_2
  obtain ⟨c2_3, cs2_3, rfl, C2_3, F2_4⟩ := fits_cons F2_3
  obtain ⟨a2_3, rfl, ba2_3⟩ := cell_int Try.underlying3 C2_3
  obtain rfl := fits_nil F2_4
  clear hA0 hval0 hval
  simp only [List.append_nil] at hW'
  refine (walk_RaycastCircleExact a0_0 a0_1 a1 a2_0 a2_1 a2_2 a2_3 W).mono fun e W' ⟨he, hb⟩ => ?_
  subst he
  exact ⟨_, rfl, law_post laidOut hW' rfl rfl (by kernel_rfl) Try.underlying4 (by kernel_rfl) hb⟩

theorem over : Rows.raycastCircleExactRow.holds Try.pinned (OpenSpec.ofChange Rows.raycastCircleExactSpec) :=
  OpenClaim.holds_of_wide 3 Try.f3 rfl rfl rfl rfl rfl rfl rfl ⟨rfl, rfl, rfl, rfl, rfl⟩ rfl rfl rfl rfl rfl (by kernel_rfl) Try.func3 (by kernel_rfl)
    (of_decide_eq_true (by kernel_rfl)) (by unfold Func.isWrapper; first | (rw [if_pos (by decide +kernel)]; kernel_rfl) | (rw [if_neg (by decide +kernel)]; exact ⟨rfl, rfl⟩))
    (fun os started H enc _ => lifted os started H enc)

/-- The statement. -/
theorem proved : Rows.RaycastCircleExactSaid :=
  over
#print axioms proved
end Go.Proofs.Ytpdhfhcfjdnlpaa.raycastCircleExact
