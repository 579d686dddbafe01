/- After any sequence of operations the tree, sweep and prune, and exhaustive search find the same overlapping pairs. -/
import Derived.Test.YtfhhkabdeajieaaRows
import Derived.Test.YtfhhkabdeajieaaSpY
import Derived.Test.YtfhhkabdeajieaaKi1
import Derived.Test.YtfhhkabdeajieaaSpD
import Derived.WalkKit
import Derived.ProofKit
import Derived.OpenShut
namespace Go.Proofs.Ytfhhkabdeajieaa.topPairs
open Go.ChangeShapes Go.WideShapes Go.ChangeAt Go.RowKit Opn
set_option linter.unusedVariables false

theorem own : ownKnob Try.prog.godebug = none := by kernel_rfl
theorem laidOut : laidOutB Try.prog = true := by kernel_rfl

set_option maxRecDepth 100000 in
theorem lifted (os : Os) (started : os.Started) (H : Type) (enc : TypeId × Value → H) :
    ReturnsInHanded {} Try.checked os 7 .any (Rows.topPairsSpec.pre6 enc Try.prog Try.f7 Rows.topPairsRow.domain false) (Rows.topPairsSpec.post enc Try.prog Try.f7 false true false false) := by
  refine returnsInHanded_of_change (C := Try.checked) own started (by kernel_rfl) Try.func7
    (ChangeSpec.witness6 (enc := enc) (C := Try.checked) false ⟨#[], #[.slice none 0 0], []⟩ 8 (by kernel_rfl) (by kernel_rfl) (by kernel_rfl) (by kernel_rfl)) ?_
  intro W base args ds gs before hval0 hW hcnd _
  have hval : ∀ (j : Nat) t v, Try.f7.params[j]? = some t → args[j]? = some v → Value.okWide Try.prog W .any base t v := hval0
  have hW' := hW
  obtain ⟨p, q, hA0, hV, rfl, hfz, hnd⟩ := hW
  have hA : DataW.TrodAll enc Try.prog W 0 (fun _ => true) true Try.f7.params.toList args.toList ds p := hA0
  rw [Try.params7] at hA hval
  obtain ⟨v0, vs0, d0, ds0, p0, q0, hargs, rfl, rfl, h0, r0⟩ := trodAll_cons hA
  obtain ⟨rfl, rfl, rfl⟩ := trodAll_nil r0
  obtain rfl : args = #[v0] := by cases args; simp_all
  obtain ⟨rfl, rfl⟩ := trodVars_none hV
  obtain ⟨fu0, hs0⟩ := arg_slice Try.underlying47 h0 (hval 0 47 v0 rfl rfl)
  obtain ⟨A0, cap0, ps0, e0, hl0, hc0, hp0, hnil0⟩ := rd_els 6 (fun cs f => cs = toc f ∧ i64k f.i ∧ 0 ≤ f.k ∧ f.k < 256) Try.underlying47 (by kernel_rfl) (by decide) (fun m ci y hy => rd_TopDr hy) hs0
  obtain rfl : v0 = _ := by simpa using e0
  clear hA0 hval0 hval
  simp only [List.append_nil] at hW'
  refine (walk_TopPairs A0 cap0 ps0 W hp0).mono fun e W' ⟨he, hb⟩ => ?_
  subst he
  exact ⟨_, rfl, law_post laidOut hW' rfl rfl (by kernel_rfl) Try.underlying4 (by kernel_rfl) hb⟩

theorem over : Rows.topPairsRow.holds Try.pinned (OpenSpec.ofChange Rows.topPairsSpec) :=
  OpenClaim.holds_of_wide 7 Try.f7 rfl rfl rfl rfl rfl rfl rfl ⟨rfl, rfl, rfl, rfl, rfl⟩ rfl rfl rfl rfl rfl (by kernel_rfl) Try.func7 (by kernel_rfl)
    (of_decide_eq_true (by kernel_rfl)) (by unfold Func.isWrapper; first | (rw [if_pos (by decide +kernel)]; kernel_rfl) | (rw [if_neg (by decide +kernel)]; exact ⟨rfl, rfl⟩))
    (fun os started H enc _ => lifted os started H enc)

/-- The statement. -/
theorem proved : Rows.TopPairsSaid :=
  over
#print axioms proved
end Go.Proofs.Ytfhhkabdeajieaa.topPairs
