/- After any sequence of operations the queries return exactly the stored boxes that a test of each single box finds. -/
import Derived.Test.YtdldlcibjjccpaaRows
import Derived.Test.YtdldlcibjjccpaaBxH
import Derived.Test.YtdldlcibjjccpaaKi1
import Derived.Test.YtdldlcibjjccpaaBxA
import Derived.WalkKit
import Derived.ProofKit
import Derived.OpenShut
namespace Go.Proofs.Ytdldlcibjjccpaa.bVHQueries
open Go.ChangeShapes Go.WideShapes Go.ChangeAt Go.RowKit Opn
set_option linter.unusedVariables false

theorem own : ownKnob Try.prog.godebug = none := by kernel_rfl
theorem laidOut : laidOutB Try.prog = true := by kernel_rfl

set_option maxRecDepth 100000 in
theorem lifted (os : Os) (started : os.Started) (H : Type) (enc : TypeId × Value → H) :
    ReturnsInHanded {} Try.checked os 3 .any (Rows.bVHQueriesSpec.pre6 enc Try.prog Try.f3 Rows.bVHQueriesRow.domain false) (Rows.bVHQueriesSpec.post enc Try.prog Try.f3 false true false false) := by
  refine returnsInHanded_of_change (C := Try.checked) own started (by kernel_rfl) Try.func3
    (ChangeSpec.witness6 (enc := enc) (C := Try.checked) false ⟨#[], #[.slice none 0 0, .agg #[.int .i64 0, .int .i64 0, .int .i64 0, .int .i64 0], .agg #[.int .i64 0, .int .i64 0], .agg #[.int .i64 0, .int .i64 0]], []⟩ 8 (by kernel_rfl) (by kernel_rfl) (by kernel_rfl) (by kernel_rfl)) ?_
  intro W base args ds gs before hval0 hW hcnd _
  have hval : ∀ (j : Nat) t v, Try.f3.params[j]? = some t → args[j]? = some v → Value.okWide Try.prog W .any base t v := hval0
  have hW' := hW
  obtain ⟨p, q, hA0, hV, rfl, hfz, hnd⟩ := hW
  have hA : DataW.TrodAll enc Try.prog W 0 (fun _ => true) true Try.f3.params.toList args.toList ds p := hA0
  rw [Try.params3] at hA hval
  obtain ⟨v0, vs0, d0, ds0, p0, q0, hargs, rfl, rfl, h0, r0⟩ := trodAll_cons hA
  obtain ⟨v1, vs1, d1, ds1, p1, q1, rfl, rfl, rfl, h1, r1⟩ := trodAll_cons r0
  obtain ⟨v2, vs2, d2, ds2, p2, q2, rfl, rfl, rfl, h2, r2⟩ := trodAll_cons r1
  obtain ⟨v3, vs3, d3, ds3, p3, q3, rfl, rfl, rfl, h3, r3⟩ := trodAll_cons r2
  obtain ⟨rfl, rfl, rfl⟩ := trodAll_nil r3
  obtain rfl : args = #[v0, v1, v2, v3] := by cases args; simp_all
  obtain ⟨rfl, rfl⟩ := trodVars_none hV
  obtain ⟨fu0, hs0⟩ := arg_slice Try.underlying22 h0 (hval 0 22 v0 rfl rfl)
  obtain ⟨A0, cap0, ps0, e0, hl0, hc0, hp0, hnil0⟩ := rd_els 6 (fun cs f => cs = opc f ∧ i64k f.i) Try.underlying22 (by kernel_rfl) (by decide) (fun m ci y hy => rd_Opr hy) hs0
  obtain rfl : v0 = _ := by simpa using e0
  obtain ⟨cs1, rfl, F1_0⟩ := open_flat (ts := [3, 3, 3, 3]) (by kernel_rfl) (by kernel_rfl) (by kernel_rfl) (hval 1 26 v1 rfl rfl)
  obtain ⟨c1_0, cs1_0, rfl, C1_0, F1_1⟩ := fits_cons F1_0
  obtain ⟨a1_0, rfl, ba1_0⟩ := cell_int Try.underlying3 C1_0
  obtain ⟨c1_1, cs1_1, rfl, C1_1, F1_2⟩ := fits_cons F1_1
  obtain ⟨a1_1, rfl, ba1_1⟩ := cell_int Try.underlying3 C1_1
  obtain ⟨c1_2, cs1_2, rfl, C1_2, F1_3⟩ := fits_cons F1_2
  obtain ⟨a1_2, rfl, ba1_2⟩ := cell_int Try.underlying3 C1_2
  obtain ⟨c1_3, cs1_3, rfl, C1_3, F1_4⟩ := fits_cons F1_3
  obtain ⟨a1_3, rfl, ba1_3⟩ := cell_int Try.underlying3 C1_3
  obtain rfl := fits_nil F1_4
  obtain ⟨cs2, rfl, F2_0⟩ := open_flat (ts := [3, 3]) (by kernel_rfl) (by kernel_rfl) (by kernel_rfl) (hval 2 24 v2 rfl rfl)
  obtain ⟨c2_0, cs2_0, rfl, C2_0, F2_1⟩ := fits_cons F2_0
  obtain ⟨a2_0, rfl, ba2_0⟩ := cell_int Try.underlying3 C2_0
  obtain ⟨c2_1, cs2_1, rfl, C2_1, F2_2⟩ := fits_cons F2_1
  obtain ⟨a2_1, rfl, ba2_1⟩ := cell_int Try.underlying3 C2_1
  obtain rfl := fits_nil F2_2
  obtain ⟨cs3, rfl, F3_0⟩ := open_flat (ts := [3, 3]) (by kernel_rfl) (by kernel_rfl) (by kernel_rfl) (hval 3 24 v3 rfl rfl)
  obtain ⟨c3_0, cs3_0, rfl, C3_0, F3_1⟩ := fits_cons F3_0
  obtain ⟨a3_0, rfl, ba3_0⟩ := cell_int Try.underlying3 C3_0
  obtain ⟨c3_1, cs3_1, rfl, C3_1, F3_2⟩ := fits_cons F3_1
  obtain ⟨a3_1, rfl, ba3_1⟩ := cell_int Try.underlying3 C3_1
  obtain rfl := fits_nil F3_2
  clear hA0 hval0 hval
  simp only [List.append_nil] at hW'
  refine (walk_BVHQueries A0 cap0 ps0 a1_0 a1_1 a1_2 a1_3 a2_0 a2_1 a3_0 a3_1 W hp0).mono fun e W' ⟨he, hb⟩ => ?_
  subst he
  exact ⟨_, rfl, law_post laidOut hW' rfl rfl (by kernel_rfl) Try.underlying4 (by kernel_rfl) hb⟩

theorem over : Rows.bVHQueriesRow.holds Try.pinned (OpenSpec.ofChange Rows.bVHQueriesSpec) :=
  OpenClaim.holds_of_wide 3 Try.f3 rfl rfl rfl rfl rfl rfl rfl ⟨rfl, rfl, rfl, rfl, rfl⟩ rfl rfl rfl rfl rfl (by kernel_rfl) Try.func3 (by kernel_rfl)
    (of_decide_eq_true (by kernel_rfl)) (by unfold Func.isWrapper; first | (rw [if_pos (by decide +kernel)]; kernel_rfl) | (rw [if_neg (by decide +kernel)]; exact ⟨rfl, rfl⟩))
    (fun os started H enc _ => lifted os started H enc)

/-- The statement. -/
theorem proved : Rows.BVHQueriesSaid :=
  over
#print axioms proved
end Go.Proofs.Ytdldlcibjjccpaa.bVHQueries
