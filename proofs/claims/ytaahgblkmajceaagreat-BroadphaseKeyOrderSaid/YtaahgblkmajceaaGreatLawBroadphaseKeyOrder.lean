/- Less is a strict total order and answers as the reference does, and so does ValidKeys. -/
import Derived.Test.YtaahgblkmajceaaGreatRows
import Derived.Test.YtaahgblkmajceaaGreatBqS
import Derived.Test.YtaahgblkmajceaaGreatKi1
import Derived.Test.YtaahgblkmajceaaGreatBh1
import Derived.WalkKit
import Derived.ProofKit
import Derived.OpenShut
namespace Go.Proofs.YtaahgblkmajceaaGreat.broadphaseKeyOrder
open Go.ChangeShapes Go.WideShapes Go.ChangeAt Go.RowKit Opn
set_option linter.unusedVariables false

theorem own : ownKnob Tryz.prog.godebug = none := by kernel_rfl
theorem laidOut : laidOutB Tryz.prog = true := by kernel_rfl

set_option maxRecDepth 100000 in
theorem lifted (os : Os) (started : os.Started) (H : Type) (enc : TypeId × Value → H) :
    ReturnsInHanded {} Tryz.checked os 7 .any (Rows.broadphaseKeyOrderSpec.pre6 enc Tryz.prog Tryz.f7 Rows.broadphaseKeyOrderRow.domain false) (Rows.broadphaseKeyOrderSpec.post enc Tryz.prog Tryz.f7 false true false false) := by
  refine returnsInHanded_of_change (C := Tryz.checked) own started (by kernel_rfl) Tryz.func7
    (ChangeSpec.witness6 (enc := enc) (C := Tryz.checked) false ⟨#[], #[.slice none 0 0, .agg #[.int .i64 0, .int .i64 0, .int .i64 0, .int .i64 0], .agg #[.int .i64 0, .int .i64 0, .int .i64 0, .int .i64 0]], []⟩ 8 (by kernel_rfl) (by kernel_rfl) (by kernel_rfl) (by kernel_rfl)) ?_
  intro W base args ds gs before hval0 hW hcnd _
  have hval : ∀ (j : Nat) t v, Tryz.f7.params[j]? = some t → args[j]? = some v → Value.okWide Tryz.prog W .any base t v := hval0
  have hW' := hW
  obtain ⟨p, q, hA0, hV, rfl, hfz, hnd⟩ := hW
  have hA : DataW.TrodAll enc Tryz.prog W 0 (fun _ => true) true Tryz.f7.params.toList args.toList ds p := hA0
  rw [Tryz.params7] at hA hval
  obtain ⟨v0, vs0, d0, ds0, p0, q0, hargs, rfl, rfl, h0, r0⟩ := trodAll_cons hA
  obtain ⟨v1, vs1, d1, ds1, p1, q1, rfl, rfl, rfl, h1, r1⟩ := trodAll_cons r0
  obtain ⟨v2, vs2, d2, ds2, p2, q2, rfl, rfl, rfl, h2, r2⟩ := trodAll_cons r1
  obtain ⟨rfl, rfl, rfl⟩ := trodAll_nil r2
  obtain rfl : args = #[v0, v1, v2] := by cases args; simp_all
  obtain ⟨rfl, rfl⟩ := trodVars_none hV
  obtain ⟨fu0, hs0⟩ := arg_slice Tryz.underlying27 h0 (hval 0 27 v0 rfl rfl)
  obtain ⟨A0, cap0, ps0, e0, hl0, hc0, hp0, hnil0⟩ := rd_els 4 (fun cs f => cs = kyc f) Tryz.underlying27 (by kernel_rfl) (by decide) (fun m ci y hy => rd_Ky hy) hs0
  obtain rfl : v0 = _ := by simpa using e0
  obtain ⟨cs1, rfl, F1_0⟩ := open_flat (ts := [3, 3, 3, 3]) (by kernel_rfl) (by kernel_rfl) (by kernel_rfl) (hval 1 60 v1 rfl rfl)
  obtain ⟨c1_0, cs1_0, rfl, C1_0, F1_1⟩ := fits_cons F1_0
  obtain ⟨a1_0, rfl, ba1_0⟩ := cell_int Tryz.underlying3 C1_0
  obtain ⟨c1_1, cs1_1, rfl, C1_1, F1_2⟩ := fits_cons F1_1
  obtain ⟨a1_1, rfl, ba1_1⟩ := cell_int Tryz.underlying3 C1_1
  obtain ⟨c1_2, cs1_2, rfl, C1_2, F1_3⟩ := fits_cons F1_2
  obtain ⟨a1_2, rfl, ba1_2⟩ := cell_int Tryz.underlying3 C1_2
  obtain ⟨c1_3, cs1_3, rfl, C1_3, F1_4⟩ := fits_cons F1_3
  obtain ⟨a1_3, rfl, ba1_3⟩ := cell_int Tryz.underlying3 C1_3
  obtain rfl := fits_nil F1_4
  obtain ⟨cs2, rfl, F2_0⟩ := open_flat (ts := [3, 3, 3, 3]) (by kernel_rfl) (by kernel_rfl) (by kernel_rfl) (hval 2 60 v2 rfl rfl)
  obtain ⟨c2_0, cs2_0, rfl, C2_0, F2_1⟩ := fits_cons F2_0
  obtain ⟨a2_0, rfl, ba2_0⟩ := cell_int Tryz.underlying3 C2_0
  obtain ⟨c2_1, cs2_1, rfl, C2_1, F2_2⟩ := fits_cons F2_1
  obtain ⟨a2_1, rfl, ba2_1⟩ := cell_int Tryz.underlying3 C2_1
  obtain ⟨c2_2, cs2_2, rfl, C2_2, F2_3⟩ := fits_cons F2_2
  obtain ⟨a2_2, rfl, ba2_2⟩ := cell_int Tryz.underlying3 C2_2
  obtain ⟨c2_3, cs2_3, rfl, C2_3, F2_4⟩ := fits_cons F2_3
  obtain ⟨a2_3, rfl, ba2_3⟩ := cell_int Tryz.underlying3 C2_3
  obtain rfl := fits_nil F2_4
  clear hA0 hval0 hval
  simp only [List.append_nil] at hW'
  refine (walk_BroadphaseKeyOrder A0 cap0 ps0 a1_0 a1_1 a1_2 a1_3 a2_0 a2_1 a2_2 a2_3 W hp0).mono fun e W' ⟨he, hb⟩ => ?_
  subst he
  exact ⟨_, rfl, law_post laidOut hW' rfl rfl (by kernel_rfl) Tryz.underlying4 (by kernel_rfl) hb⟩

theorem over : Rows.broadphaseKeyOrderRow.holds Tryz.pinned (OpenSpec.ofChange Rows.broadphaseKeyOrderSpec) :=
  OpenClaim.holds_of_wide 7 Tryz.f7 rfl rfl rfl rfl rfl rfl rfl ⟨rfl, rfl, rfl, rfl, rfl⟩ rfl rfl rfl rfl rfl (by kernel_rfl) Tryz.func7 (by kernel_rfl)
    (of_decide_eq_true (by kernel_rfl)) (by unfold Func.isWrapper; first | (rw [if_pos (by decide +kernel)]; kernel_rfl) | (rw [if_neg (by decide +kernel)]; exact ⟨rfl, rfl⟩))
    (fun os started H enc _ => lifted os started H enc)

/-- The statement. -/
theorem proved : Rows.BroadphaseKeyOrderSaid :=
  over
#print axioms proved
end Go.Proofs.YtaahgblkmajceaaGreat.broadphaseKeyOrder
