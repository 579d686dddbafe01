/- The keys of FindPairs are valid and are the same for the bodies in reverse order. -/
import Derived.Test.YtaahgblkmajceaaGreatRows
import Derived.Test.YtaahgblkmajceaaGreatBqU
import Derived.Test.YtaahgblkmajceaaGreatKi1
import Derived.Test.YtaahgblkmajceaaGreatBh1
import Derived.WalkKit
import Derived.ProofKit
import Derived.OpenShut
namespace Go.Proofs.YtaahgblkmajceaaGreat.broadphaseBodyOrder
open Go.ChangeShapes Go.WideShapes Go.ChangeAt Go.RowKit Opn
set_option linter.unusedVariables false

theorem own : ownKnob Tryz.prog.godebug = none := by kernel_rfl
theorem laidOut : laidOutB Tryz.prog = true := by kernel_rfl

set_option maxRecDepth 100000 in
theorem lifted (os : Os) (started : os.Started) (H : Type) (enc : TypeId × Value → H) :
    ReturnsInHanded {} Tryz.checked os 8 .any (Rows.broadphaseBodyOrderSpec.pre6 enc Tryz.prog Tryz.f8 Rows.broadphaseBodyOrderRow.domain false) (Rows.broadphaseBodyOrderSpec.post enc Tryz.prog Tryz.f8 false true false false) := by
  refine returnsInHanded_of_change (C := Tryz.checked) own started (by kernel_rfl) Tryz.func8
    (ChangeSpec.witness6 (enc := enc) (C := Tryz.checked) false ⟨#[], #[.slice none 0 0, .slice none 0 0], []⟩ 8 (by kernel_rfl) (by kernel_rfl) (by kernel_rfl) (by kernel_rfl)) ?_
  intro W base args ds gs before hval0 hW hcnd _
  have hval : ∀ (j : Nat) t v, Tryz.f8.params[j]? = some t → args[j]? = some v → Value.okWide Tryz.prog W .any base t v := hval0
  have hW' := hW
  obtain ⟨p, q, hA0, hV, rfl, hfz, hnd⟩ := hW
  have hA : DataW.TrodAll enc Tryz.prog W 0 (fun _ => true) true Tryz.f8.params.toList args.toList ds p := hA0
  rw [Tryz.params8] at hA hval
  obtain ⟨v0, vs0, d0, ds0, p0, q0, hargs, rfl, rfl, h0, r0⟩ := trodAll_cons hA
  obtain ⟨v1, vs1, d1, ds1, p1, q1, rfl, rfl, rfl, h1, r1⟩ := trodAll_cons r0
  obtain ⟨rfl, rfl, rfl⟩ := trodAll_nil r1
  obtain rfl : args = #[v0, v1] := by cases args; simp_all
  obtain ⟨rfl, rfl⟩ := trodVars_none hV
  obtain ⟨fu0, hs0⟩ := arg_slice Tryz.underlying22 h0 (hval 0 22 v0 rfl rfl)
  obtain ⟨A0, cap0, ps0, e0, hl0, hc0, hp0, hnil0⟩ := rd_els 20 (bdQ W) Tryz.underlying22 (by kernel_rfl) (by decide) (fun m ci y hy => rd_Bdy hy) hs0
  obtain rfl : v0 = _ := by simpa using e0
  obtain ⟨fu1, hs1⟩ := arg_slice Tryz.underlying23 h1 (hval 1 23 v1 rfl rfl)
  obtain ⟨A1, cap1, ps1, e1, hl1, hc1, hp1, hnil1⟩ := rd_els 24 (jnQ) Tryz.underlying23 (by kernel_rfl) (by decide) (fun m ci y hy => rd_Jnt hy) hs1
  obtain rfl : v1 = _ := by simpa using e1
  clear hA0 hval0 hval
  simp only [List.append_nil] at hW'
  refine (walk_BroadphaseBodyOrder A0 cap0 ps0 A1 cap1 ps1 W hp0 hp1).mono fun e W' ⟨he, hb⟩ => ?_
  subst he
  exact ⟨_, rfl, law_post laidOut hW' rfl rfl (by kernel_rfl) Tryz.underlying4 (by kernel_rfl) hb⟩

theorem over : Rows.broadphaseBodyOrderRow.holds Tryz.pinned (OpenSpec.ofChange Rows.broadphaseBodyOrderSpec) :=
  OpenClaim.holds_of_wide 8 Tryz.f8 rfl rfl rfl rfl rfl rfl rfl ⟨rfl, rfl, rfl, rfl, rfl⟩ rfl rfl rfl rfl rfl (by kernel_rfl) Tryz.func8 (by kernel_rfl)
    (of_decide_eq_true (by kernel_rfl)) (by unfold Func.isWrapper; first | (rw [if_pos (by decide +kernel)]; kernel_rfl) | (rw [if_neg (by decide +kernel)]; exact ⟨rfl, rfl⟩))
    (fun os started H enc _ => lifted os started H enc)

/-- The statement. -/
theorem proved : Rows.BroadphaseBodyOrderSaid :=
  over
#print axioms proved
end Go.Proofs.YtaahgblkmajceaaGreat.broadphaseBodyOrder
