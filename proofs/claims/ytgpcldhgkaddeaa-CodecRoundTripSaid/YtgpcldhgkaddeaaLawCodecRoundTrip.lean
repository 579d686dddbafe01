/- For all slices b, l and more, ints n and bools x, CodecRoundTrip returns true and leaves its arguments as they are. Conditions: none. -/
import Derived.Test.YtgpcldhgkaddeaaRows
import Derived.Test.YtgpcldhgkaddeaaFixCN
import Derived.Test.YtgpcldhgkaddeaaOp
import Derived.Test.YtgpcldhgkaddeaaInts
import Derived.WalkKit
import Derived.ProofKit
import Derived.OpenShut
namespace Go.Proofs.Ytgpcldhgkaddeaa.codecRoundTrip
open Go.ChangeShapes Go.WideShapes Go.ChangeAt Go.RowKit Opn
set_option linter.unusedVariables false

theorem own : ownKnob Try.prog.godebug = none := by kernel_rfl
theorem laidOut : laidOutB Try.prog = true := by kernel_rfl

set_option maxRecDepth 100000 in
theorem lifted (os : Os) (started : os.Started) (H : Type) (enc : TypeId × Value → H) :
    ReturnsInHanded {} Try.checked os 3 .any (Rows.codecRoundTripSpec.pre6 enc Try.prog Try.f3 Rows.codecRoundTripRow.domain false) (Rows.codecRoundTripSpec.post enc Try.prog Try.f3 false true false false) := by
  refine returnsInHanded_of_change (C := Try.checked) own started (by kernel_rfl) Try.func3
    (ChangeSpec.witness6 (enc := enc) (C := Try.checked) false ⟨#[], #[.slice none 0 0, .int .i64 0, .bool false, .slice none 0 0, .slice none 0 0], []⟩ 8 (by kernel_rfl) (by kernel_rfl) (by kernel_rfl) (by kernel_rfl)) ?_
  intro W base args ds gs before hval0 hW hcnd _
  have hval : ∀ (j : Nat) t v, Try.f3.params[j]? = some t → args[j]? = some v → Value.okWide Try.prog W .any base t v := hval0
  have hW' := hW
  obtain ⟨p, q, hA0, hV, rfl, hfz, hnd⟩ := hW
  have hA : DataW.TrodAll enc Try.prog W 0 (fun _ => true) true Try.f3.params.toList args.toList ds p := hA0
  rw [Try.params3] at hA hval
  obtain ⟨v0, vs0, d0, ds0, p0, q0, hargs, rfl, rfl, h0, r0⟩ := trodAll_cons hA
  obtain ⟨v1, vs1, d1, ds1, p1, q1, rfl, rfl, rfl, h1, r1⟩ := trodAll_cons r0
  obtain ⟨v2, vs2, d2, ds2, p2, q2, rfl, rfl, rfl, h2, r2⟩ := trodAll_cons r1
  obtain ⟨v3, vs3, d3, ds3, p3, q3, rfl, rfl, rfl, h3, r3⟩ := trodAll_cons r2
  obtain ⟨v4, vs4, d4, ds4, p4, q4, rfl, rfl, rfl, h4, r4⟩ := trodAll_cons r3
  obtain ⟨rfl, rfl, rfl⟩ := trodAll_nil r4
  obtain rfl : args = #[v0, v1, v2, v3, v4] := by cases args; simp_all
  obtain ⟨rfl, rfl⟩ := trodVars_none hV
  obtain ⟨A0, cap0, ps0, rfl, hl0, hc0, hp0, hw0, hnil0⟩ := open_ik2 Try.underlying22 Try.underlying5 (by kernel_rfl) h0 (hval 0 22 v0 rfl rfl)
  obtain ⟨a1, rfl, ba1⟩ := one_int Try.underlying3 (hval 1 3 v1 rfl rfl)
  obtain ⟨a2, rfl⟩ := one_bool Try.underlying4 (hval 2 4 v2 rfl rfl)
  obtain ⟨A3, cap3, ps3, rfl, hl3, hc3, hp3, hw3, hnil3⟩ := open_ik2 Try.underlying23 Try.underlying3 (by kernel_rfl) h3 (hval 3 23 v3 rfl rfl)
  obtain ⟨A4, cap4, ps4, rfl, hl4, hc4, hp4, hw4, hnil4⟩ := open_ik2 Try.underlying22 Try.underlying5 (by kernel_rfl) h4 (hval 4 22 v4 rfl rfl)
  clear hA0 hval0 hval
  simp only [List.append_nil] at hW'
  refine (walk_CodecRoundTrip A0 cap0 ps0 a1 a2 A3 cap3 ps3 A4 cap4 ps4 (wf_u8 hw0) (has_i64 ba1) (wf_i64 hw3) (wf_u8 hw4) W hp0 hl0 hc0 hnil0 hp3 hp4 hnil4).mono fun e W' ⟨he, hb⟩ => ?_
  subst he
  exact ⟨_, rfl, law_post laidOut hW' rfl rfl (by kernel_rfl) Try.underlying4 (by kernel_rfl) hb⟩

theorem over : Rows.codecRoundTripRow.holds Try.pinned (OpenSpec.ofChange Rows.codecRoundTripSpec) :=
  OpenClaim.holds_of_wide 3 Try.f3 rfl rfl rfl rfl rfl rfl rfl ⟨rfl, rfl, rfl, rfl, rfl⟩ rfl rfl rfl rfl rfl (by kernel_rfl) Try.func3 (by kernel_rfl)
    (of_decide_eq_true (by kernel_rfl)) (by unfold Func.isWrapper; first | (rw [if_pos (by decide +kernel)]; kernel_rfl) | (rw [if_neg (by decide +kernel)]; exact ⟨rfl, rfl⟩))
    (fun os started H enc _ => lifted os started H enc)

/-- The statement. -/
theorem proved : Rows.CodecRoundTripSaid :=
  over
#print axioms proved
end Go.Proofs.Ytgpcldhgkaddeaa.codecRoundTrip
