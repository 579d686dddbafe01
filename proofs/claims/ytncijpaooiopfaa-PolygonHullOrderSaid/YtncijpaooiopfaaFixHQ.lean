/- Law of chapter 11: PolygonHullOrder. Points appended to an own row. -/
import Derived.Test.YtncijpaooiopfaaFixHO
import Derived.Test.YtncijpaooiopfaaKi3
import Derived.Test.YtncijpaooiopfaaKi2
set_option linter.unusedVariables false
namespace Go.Proofs.Ytncijpaooiopfaa
open Go.RowKit Fx

def rot2 (m : Nat) (ps : List Pt) : List Pt := (ps.drop m ++ ps.take m) ++ ps.take m
theorem rot2_mem {m : Nat} {ps : List Pt} (x : Pt) : x ∈ rot2 m ps ↔ x ∈ ps := by
  unfold rot2
  rw [List.mem_append]
  constructor
  · rintro (h | h)
    · exact (rot_mem x).1 h
    · exact List.mem_of_mem_take h
  · intro h; exact .inl ((rot_mem x).2 h)
theorem rot2_hull {m : Nat} {ps : List Pt} (h32 : ps.length ≤ 32) : hullP (rot2 m ps) = hullP ps := by
  have hl : ps.length ≤ (rot2 m ps).length ∧ (rot2 m ps).length ≤ 2 * ps.length := by unfold rot2; simp; omega
  by_cases h : Okp ps
  · exact hullP_same (fun x => rot2_mem x) ⟨by have := h.h0; omega, by omega, fun p hp => h.hin p ((rot2_mem p).1 hp)⟩ h
  · rw [hullP_bad h]
    refine hullP_bad fun k => h ⟨?_, by omega, fun p hp => k.hin p ((rot2_mem p).2 hp)⟩
    have := k.h0; omega

end Go.Proofs.Ytncijpaooiopfaa
