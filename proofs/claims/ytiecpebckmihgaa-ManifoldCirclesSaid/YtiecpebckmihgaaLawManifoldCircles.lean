/- Two circles touch if and only if the distance of their centers exceeds the sum of their radii by at most ContactMargin, and that excess is the separation. -/
import Derived.Test.YtiecpebckmihgaaRows
import Derived.Test.YtiecpebckmihgaaMnL
import Derived.Test.YtiecpebckmihgaaKi1
import Derived.WalkKit
import Derived.ProofKit
import Derived.OpenShut
namespace Go.Proofs.Ytiecpebckmihgaa.manifoldCircles
open Go.ChangeShapes Go.WideShapes Go.ChangeAt Go.RowKit Opn
set_option linter.unusedVariables false

theorem own : ownKnob Try.prog.godebug = none := by kernel_rfl
theorem laidOut : laidOutB Try.prog = true := by kernel_rfl

set_option maxRecDepth 100000 in
theorem lifted (os : Os) (started : os.Started) (H : Type) (enc : TypeId × Value → H) :
    ReturnsInHanded {} Try.checked os 5 .any (Rows.manifoldCirclesSpec.pre6 enc Try.prog Try.f5 Rows.manifoldCirclesRow.domain false) (Rows.manifoldCirclesSpec.post enc Try.prog Try.f5 false true false false) := by
  refine returnsInHanded_of_change (C := Try.checked) own started (by kernel_rfl) Try.func5
    (ChangeSpec.witness6 (enc := enc) (C := Try.checked) false ⟨#[], #[.int .i64 0, .int .i64 0, .agg #[.int .i64 0, .int .i64 0], .agg #[.int .i64 0, .int .i64 0]], []⟩ 8 (by kernel_rfl) (by kernel_rfl) (by kernel_rfl) (by kernel_rfl)) ?_
  intro W base args ds gs before hval0 hW hcnd _
  have hval : ∀ (j : Nat) t v, Try.f5.params[j]? = some t → args[j]? = some v → Value.okWide Try.prog W .any base t v := hval0
  have hW' := hW
  obtain ⟨p, q, hA0, hV, rfl, hfz, hnd⟩ := hW
  have hA : DataW.TrodAll enc Try.prog W 0 (fun _ => true) true Try.f5.params.toList args.toList ds p := hA0
  rw [Try.params5] at hA hval
  obtain ⟨v0, vs0, d0, ds0, p0, q0, hargs, rfl, rfl, h0, r0⟩ := trodAll_cons hA
  obtain ⟨v1, vs1, d1, ds1, p1, q1, rfl, rfl, rfl, h1, r1⟩ := trodAll_cons r0
  obtain ⟨v2, vs2, d2, ds2, p2, q2, rfl, rfl, rfl, h2, r2⟩ := trodAll_cons r1
  obtain ⟨v3, vs3, d3, ds3, p3, q3, rfl, rfl, rfl, h3, r3⟩ := trodAll_cons r2
  obtain ⟨rfl, rfl, rfl⟩ := trodAll_nil r3
  obtain rfl : args = #[v0, v1, v2, v3] := by cases args; simp_all
  obtain ⟨rfl, rfl⟩ := trodVars_none hV
  obtain ⟨a0, rfl, ba0⟩ := one_int Try.underlying3 (hval 0 3 v0 rfl rfl)
  obtain ⟨a1, rfl, ba1⟩ := one_int Try.underlying3 (hval 1 3 v1 rfl rfl)
  obtain ⟨cs2, rfl, F2_0⟩ := open_flat (ts := [3, 3]) (by kernel_rfl) (by kernel_rfl) (by kernel_rfl) (hval 2 23 v2 rfl rfl)
  obtain ⟨c2_0, cs2_0, rfl, C2_0, F2_1⟩ := fits_cons F2_0
  obtain ⟨a2_0, rfl, ba2_0⟩ := cell_int Try.underlying3 C2_0
  obtain ⟨c2_1, cs2_1, rfl, C2_1, F2_2⟩ := fits_cons F2_1
  obtain ⟨a2_1, rfl, ba2_1⟩ := cell_int Try.underlying3 C2_1
  obtain rfl := fits_nil F2_2
  obtain ⟨cs3, rfl, F3_0⟩ := open_flat (ts := [3, 3]) (by kernel_rfl) (by kernel_rfl) (by kernel_rfl) (hval 3 23 v3 rfl rfl)
  obtain ⟨c3_0, cs3_0, rfl, C3_0, F3_1⟩ := fits_cons F3_0
  obtain ⟨a3_0, rfl, ba3_0⟩ := cell_int Try.underlying3 C3_0
  obtain ⟨c3_1, cs3_1, rfl, C3_1, F3_2⟩ := fits_cons F3_1
  obtain ⟨a3_1, rfl, ba3_1⟩ := cell_int Try.underlying3 C3_1
  obtain rfl := fits_nil F3_2
  clear hA0 hval0 hval
  simp only [List.append_nil] at hW'
  refine (walk_ManifoldCircles a0 a1 a2_0 a2_1 a3_0 a3_1 W).mono fun e W' ⟨he, hb⟩ => ?_
  subst he
  exact ⟨_, rfl, law_post laidOut hW' rfl rfl (by kernel_rfl) Try.underlying4 (by kernel_rfl) hb⟩

theorem over : Rows.manifoldCirclesRow.holds Try.pinned (OpenSpec.ofChange Rows.manifoldCirclesSpec) :=
  OpenClaim.holds_of_wide 5 Try.f5 rfl rfl rfl rfl rfl rfl rfl ⟨rfl, rfl, rfl, rfl, rfl⟩ rfl rfl rfl rfl rfl (by kernel_rfl) Try.func5 (by kernel_rfl)
    (of_decide_eq_true (by kernel_rfl)) (by unfold Func.isWrapper; first | (rw [if_pos (by decide +kernel)]; kernel_rfl) | (rw [if_neg (by decide +kernel)]; exact ⟨rfl, rfl⟩))
    (fun os started H enc _ => lifted os started H enc)

/-- The statement. -/
theorem proved : Rows.ManifoldCirclesSaid :=
  over
#print axioms proved
end Go.Proofs.Ytiecpebckmihgaa.manifoldCircles
