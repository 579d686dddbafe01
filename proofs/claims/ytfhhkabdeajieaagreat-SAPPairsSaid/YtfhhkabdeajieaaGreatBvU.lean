/- Chapter 20: contracts of Remove, Update; the methods of a nil tree. -/
import Derived.Test.YtfhhkabdeajieaaGreatBvT
import Derived.Deep.DeepCutAuto
set_option linter.unusedVariables false
set_option linter.unusedSimpArgs false
namespace Go.Proofs.YtfhhkabdeajieaaGreat
open Go.RowKit Fx

theorem remL_none {L : Bxs} {i : Int} (h : look L i = none) : remL L i = L := by
  unfold remL
  rw [List.filter_eq_self]
  intro e he
  simpa using look_none.1 h e he
theorem remL_perm {L : Bxs} (h : Srt L) {i : Int} {x : Bx} (hm : (i, x) ∈ L) : L.Perm ((i, x) :: remL L i) := by
  induction L with
  | nil => simp at hm
  | cons e L ih =>
    have h' := List.pairwise_cons.1 h
    rcases List.mem_cons.1 hm with rfl | hm
    · have hn : remL L i = L := remL_none (look_none.2 fun y hy => by have := h'.1 y hy; simp only at this; omega)
      have : remL ((i, x) :: L) i = remL L i := by simp [remL]
      rw [this, hn]
    · have hne := h'.1 _ hm
      simp only at hne
      have : remL (e :: L) i = e :: remL L i := by unfold remL; rw [List.filter_cons_of_pos (by simp; omega)]
      rw [this]
      exact ((ih h'.2 hm).cons e).trans (List.Perm.swap _ _ _)
theorem mem_remL {L : Bxs} {i : Int} {e : Int × Bx} : e ∈ remL L i ↔ e ∈ L ∧ e.1 ≠ i := by simp [remL, List.mem_filter]

end Go.Proofs.YtfhhkabdeajieaaGreat
