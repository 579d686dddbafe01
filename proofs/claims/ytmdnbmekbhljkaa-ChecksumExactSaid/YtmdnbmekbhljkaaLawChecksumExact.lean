/- For all hashes h, slices of ints and slices of bytes, ChecksumExact returns true and leaves its arguments as they are. Conditions: none. -/
import Derived.Test.YtmdnbmekbhljkaaRows
import Derived.Test.YtmdnbmekbhljkaaFixKM
import Derived.Test.YtmdnbmekbhljkaaOp
import Derived.Test.YtmdnbmekbhljkaaInts
import Derived.WalkKit
import Derived.ProofKit
import Derived.OpenShut
namespace Go.Proofs.Ytmdnbmekbhljkaa.checksumExact
open Go.ChangeShapes Go.WideShapes Go.ChangeAt Go.RowKit Opn
set_option linter.unusedVariables false

theorem own : ownKnob Try.prog.godebug = none := by kernel_rfl
theorem laidOut : laidOutB Try.prog = true := by kernel_rfl

set_option maxRecDepth 100000 in
theorem lifted (os : Os) (started : os.Started) (H : Type) (enc : TypeId × Value → H) :
    ReturnsInHanded {} Try.checked os 4 .any (Rows.checksumExactSpec.pre6 enc Try.prog Try.f4 Rows.checksumExactRow.domain false) (Rows.checksumExactSpec.post enc Try.prog Try.f4 false true false false) := by
  refine returnsInHanded_of_change (C := Try.checked) own started (by kernel_rfl) Try.func4
    (ChangeSpec.witness6 (enc := enc) (C := Try.checked) false ⟨#[], #[.int .u64 0, .slice none 0 0, .slice none 0 0], []⟩ 8 (by kernel_rfl) (by kernel_rfl) (by kernel_rfl) (by kernel_rfl)) ?_
  intro W base args ds gs before hval0 hW hcnd _
  have hval : ∀ (j : Nat) t v, Try.f4.params[j]? = some t → args[j]? = some v → Value.okWide Try.prog W .any base t v := hval0
  have hW' := hW
  obtain ⟨p, q, hA0, hV, rfl, hfz, hnd⟩ := hW
  have hA : DataW.TrodAll enc Try.prog W 0 (fun _ => true) true Try.f4.params.toList args.toList ds p := hA0
  rw [Try.params4] at hA hval
  obtain ⟨v0, vs0, d0, ds0, p0, q0, hargs, rfl, rfl, h0, r0⟩ := trodAll_cons hA
  obtain ⟨v1, vs1, d1, ds1, p1, q1, rfl, rfl, rfl, h1, r1⟩ := trodAll_cons r0
  obtain ⟨v2, vs2, d2, ds2, p2, q2, rfl, rfl, rfl, h2, r2⟩ := trodAll_cons r1
  obtain ⟨rfl, rfl, rfl⟩ := trodAll_nil r2
  obtain rfl : args = #[v0, v1, v2] := by cases args; simp_all
  obtain ⟨rfl, rfl⟩ := trodVars_none hV
  obtain ⟨a0, rfl, ba0⟩ := one_int Try.underlying29 (hval 0 29 v0 rfl rfl)
  obtain ⟨A1, cap1, ps1, rfl, hl1, hc1, hp1, hw1, hnil1⟩ := open_ik2 Try.underlying30 Try.underlying3 (by kernel_rfl) h1 (hval 1 30 v1 rfl rfl)
  obtain ⟨A2, cap2, ps2, rfl, hl2, hc2, hp2, hw2, hnil2⟩ := open_ik2 Try.underlying22 Try.underlying5 (by kernel_rfl) h2 (hval 2 22 v2 rfl rfl)
  clear hA0 hval0 hval
  simp only [List.append_nil] at hW'
  refine (walk_ChecksumExact a0 A1 cap1 ps1 A2 cap2 ps2 ba0 (wf_u8 hw2) W hp1 hl1 hc1 hp2 hl2 hc2 hnil2).mono fun e W' ⟨he, hb⟩ => ?_
  subst he
  exact ⟨_, rfl, law_post laidOut hW' rfl rfl (by kernel_rfl) Try.underlying4 (by kernel_rfl) hb⟩

theorem over : Rows.checksumExactRow.holds Try.pinned (OpenSpec.ofChange Rows.checksumExactSpec) :=
  OpenClaim.holds_of_wide 4 Try.f4 rfl rfl rfl rfl rfl rfl rfl ⟨rfl, rfl, rfl, rfl, rfl⟩ rfl rfl rfl rfl rfl (by kernel_rfl) Try.func4 (by kernel_rfl)
    (of_decide_eq_true (by kernel_rfl)) (by unfold Func.isWrapper; first | (rw [if_pos (by decide +kernel)]; kernel_rfl) | (rw [if_neg (by decide +kernel)]; exact ⟨rfl, rfl⟩))
    (fun os started H enc _ => lifted os started H enc)

/-- The statement. -/
theorem proved : Rows.ChecksumExactSaid :=
  over
#print axioms proved
end Go.Proofs.Ytmdnbmekbhljkaa.checksumExact
