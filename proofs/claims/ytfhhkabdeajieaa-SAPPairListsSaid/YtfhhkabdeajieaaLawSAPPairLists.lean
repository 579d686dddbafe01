/- MergePairs and SubtractPairs return the specified lists, and merging what is left with the second list is merging the two. -/
import Derived.Test.YtfhhkabdeajieaaRows
import Derived.Test.YtfhhkabdeajieaaSpT
import Derived.Test.YtfhhkabdeajieaaKi1
import Derived.Test.YtfhhkabdeajieaaSpD
import Derived.WalkKit
import Derived.ProofKit
import Derived.OpenShut
namespace Go.Proofs.Ytfhhkabdeajieaa.sAPPairLists
open Go.ChangeShapes Go.WideShapes Go.ChangeAt Go.RowKit Opn
set_option linter.unusedVariables false

theorem own : ownKnob Try.prog.godebug = none := by kernel_rfl
theorem laidOut : laidOutB Try.prog = true := by kernel_rfl

set_option maxRecDepth 100000 in
theorem lifted (os : Os) (started : os.Started) (H : Type) (enc : TypeId × Value → H) :
    ReturnsInHanded {} Try.checked os 5 .any (Rows.sAPPairListsSpec.pre6 enc Try.prog Try.f5 Rows.sAPPairListsRow.domain false) (Rows.sAPPairListsSpec.post enc Try.prog Try.f5 false true false false) := by
  refine returnsInHanded_of_change (C := Try.checked) own started (by kernel_rfl) Try.func5
    (ChangeSpec.witness6 (enc := enc) (C := Try.checked) false ⟨#[], #[.slice none 0 0, .slice none 0 0], []⟩ 8 (by kernel_rfl) (by kernel_rfl) (by kernel_rfl) (by kernel_rfl)) ?_
  intro W base args ds gs before hval0 hW hcnd _
  have hval : ∀ (j : Nat) t v, Try.f5.params[j]? = some t → args[j]? = some v → Value.okWide Try.prog W .any base t v := hval0
  have hW' := hW
  obtain ⟨p, q, hA0, hV, rfl, hfz, hnd⟩ := hW
  have hA : DataW.TrodAll enc Try.prog W 0 (fun _ => true) true Try.f5.params.toList args.toList ds p := hA0
  rw [Try.params5] at hA hval
  obtain ⟨v0, vs0, d0, ds0, p0, q0, hargs, rfl, rfl, h0, r0⟩ := trodAll_cons hA
  obtain ⟨v1, vs1, d1, ds1, p1, q1, rfl, rfl, rfl, h1, r1⟩ := trodAll_cons r0
  obtain ⟨rfl, rfl, rfl⟩ := trodAll_nil r1
  obtain rfl : args = #[v0, v1] := by cases args; simp_all
  obtain ⟨rfl, rfl⟩ := trodVars_none hV
  obtain ⟨fu0, hs0⟩ := arg_slice Try.underlying40 h0 (hval 0 40 v0 rfl rfl)
  obtain ⟨A0, cap0, ps0, e0, hl0, hc0, hp0, hnil0⟩ := rd_els 2 (fun cs f => cs = prc f ∧ i64k f.1 ∧ i64k f.2) Try.underlying40 (by kernel_rfl) (by decide) (fun m ci y hy => rd_Prr hy) hs0
  obtain rfl : v0 = _ := by simpa using e0
  obtain ⟨fu1, hs1⟩ := arg_slice Try.underlying40 h1 (hval 1 40 v1 rfl rfl)
  obtain ⟨A1, cap1, ps1, e1, hl1, hc1, hp1, hnil1⟩ := rd_els 2 (fun cs f => cs = prc f ∧ i64k f.1 ∧ i64k f.2) Try.underlying40 (by kernel_rfl) (by decide) (fun m ci y hy => rd_Prr hy) hs1
  obtain rfl : v1 = _ := by simpa using e1
  clear hA0 hval0 hval
  simp only [List.append_nil] at hW'
  refine (walk_SAPPairLists A0 cap0 ps0 A1 cap1 ps1 W hp0 hp1 hnil0 hnil1).mono fun e W' ⟨he, hb⟩ => ?_
  subst he
  exact ⟨_, rfl, law_post laidOut hW' rfl rfl (by kernel_rfl) Try.underlying4 (by kernel_rfl) hb⟩

theorem over : Rows.sAPPairListsRow.holds Try.pinned (OpenSpec.ofChange Rows.sAPPairListsSpec) :=
  OpenClaim.holds_of_wide 5 Try.f5 rfl rfl rfl rfl rfl rfl rfl ⟨rfl, rfl, rfl, rfl, rfl⟩ rfl rfl rfl rfl rfl (by kernel_rfl) Try.func5 (by kernel_rfl)
    (of_decide_eq_true (by kernel_rfl)) (by unfold Func.isWrapper; first | (rw [if_pos (by decide +kernel)]; kernel_rfl) | (rw [if_neg (by decide +kernel)]; exact ⟨rfl, rfl⟩))
    (fun os started H enc _ => lifted os started H enc)

/-- The statement. -/
theorem proved : Rows.SAPPairListsSaid :=
  over
#print axioms proved
end Go.Proofs.Ytfhhkabdeajieaa.sAPPairLists
