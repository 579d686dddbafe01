/- Chapter 21: the reference's Pairs, and the tree of the entries. -/
import Derived.Test.YtfhhkabdeajieaaSpI
import Derived.Test.YtfhhkabdeajieaaSpH
import Derived.Deep.RegionHeld3
set_option linter.unusedVariables false
set_option linter.unusedSimpArgs false
namespace Go.Proofs.Ytfhhkabdeajieaa
open Go.RowKit Fx

/-- The pairs of each of the first n entries with those ahead of it. -/
def prB (c : Bxs) : Nat → List (Int × Int)
  | 0 => []
  | n + 1 => prB c n ++ fl (c.getD n default) (c.take n)
theorem prB_succ {c : Bxs} {n : Nat} (h : n < c.length) : prB c (n + 1) = prB c n ++ fl c[n] (c.take n) := by
  show prB c n ++ fl (c.getD n default) (c.take n) = _
  rw [List.getD_eq_getElem?_getD, List.getElem?_eq_getElem h]; rfl
theorem hidOfL {p : Prop} (h : p) : Hid p := h
theorem prB_len (c : Bxs) : ∀ n, (prB c n).length ≤ n * 30 ∨ 30 < n
  | 0 => .inl (by simp [prB])
  | n + 1 => by
    rcases prB_len c n with h | h
    · by_cases h30 : n ≤ 29
      · refine .inl ?_
        have h1 := fl_len (c.getD n default) (c.take n)
        rw [List.length_take] at h1
        show (prB c n ++ fl (c.getD n default) (c.take n)).length ≤ _
        rw [List.length_append]; omega
      · exact .inr (by omega)
    · exact .inr (by omega)
theorem prB_mem {c : Bxs} (hd : Dst c) : ∀ n, n ≤ c.length → ∀ x, x ∈ prB c n ↔ InP (c.take n) x
  | 0, _, x => by simp [prB, InP]
  | n + 1, h, x => by
    have hn : n < c.length := by omega
    rw [prB_succ hn, List.mem_append, prB_mem hd n (by omega) x, ← List.take_append_getElem hn]
    have hp : (c[n] :: c.take n).Perm (c.take n ++ [c[n]]) := (List.perm_append_comm (l₁ := [c[n]]) (l₂ := c.take n))
    have hd2 : Dst (c.take n ++ [c[n]]) := by rw [List.take_append_getElem hn]; exact hd.sublist (List.take_sublist _ _)
    rw [InP.congr (fun e => hp.symm.mem_iff) x, InP_cons (hd2.perm hp.symm)]
    exact Or.comm
theorem mrg_prB {c : Bxs} (hd : Dst c) : mrg (prB c c.length) = prP c := prP_eq hd (mrg_srt _) fun x => by
  rw [mrg_mem, prB_mem hd _ (Nat.le_refl _), List.take_length]

end Go.Proofs.Ytfhhkabdeajieaa
