import Derived.Test.YtdldlcibjjccpaaBwE
import Derived.Deep.DeepCutAuto
import Derived.Deep.RegionHeld3
set_option linter.unusedVariables false
set_option linter.unusedSimpArgs false
namespace Go.Proofs.Ytdldlcibjjccpaa
open Go.RowKit Fx

theorem insC_zero {L : Bxs} {i : Int} {x : Bx} : insC L i x = 0 ↔ x.val = true ∧ look L i = none ∧ L.length < 4096 := by
  unfold insC
  split
  · split
    · rename_i h1 h2
      constructor
      · intro h; omega
      · rintro ⟨_, h, _⟩; rw [h] at h2; cases h2
    · split
      · constructor
        · intro h; omega
        · rintro ⟨_, _, h⟩; omega
      · rename_i h1 h2 h3
        refine ⟨fun _ => ⟨h1, ?_, by omega⟩, fun _ => rfl⟩
        rcases hl : look L i with _ | x
        · rfl
        · rw [hl] at h2; exact (h2 rfl).elim
  · rename_i h1
    constructor
    · intro h; omega
    · rintro ⟨h, _⟩; exact (h1 h).elim
theorem updC_zero {L : Bxs} {i : Int} {x : Bx} : updC L i x = 0 ↔ x.val = true ∧ (look L i).isSome = true := by
  unfold updC
  split
  · rename_i h1
    split
    · rename_i h2; exact ⟨fun _ => ⟨h1, h2⟩, fun _ => rfl⟩
    · rename_i h2; exact ⟨fun h => by omega, fun h => (h2 h.2).elim⟩
  · rename_i h1; exact ⟨fun h => by omega, fun h => (h1 h.1).elim⟩
theorem mem_insL {L : Bxs} {i : Int} {x : Bx} {e : Int × Bx} : e ∈ insL L i x ↔ e = (i, x) ∨ e ∈ L := by rw [(insL_perm i x L).mem_iff, List.mem_cons]
theorem mem_insT {L : Bxs} {i : Int} {x : Bx} {e : Int × Bx} : e ∈ insT L i x ↔ e ∈ L ∨ (e = (i, x) ∧ insC L i x = 0) := by
  unfold insT
  split
  · rename_i h; rw [mem_insL]; exact ⟨fun h2 => h2.elim (fun h2 => .inr ⟨h2, h⟩) .inl, fun h2 => h2.elim .inr fun h2 => .inl h2.1⟩
  · rename_i h; exact ⟨.inl, fun h2 => h2.elim id fun h2 => (h h2.2).elim⟩
theorem len_insT (L : Bxs) (i : Int) (x : Bx) : (insT L i x).length ≤ L.length + 1 := by
  unfold insT; split
  · rw [(insL_perm i x L).length_eq, List.length_cons]; omega
  · omega
theorem len_remL (L : Bxs) (i : Int) : (remL L i).length ≤ L.length := List.length_filter_le _ _
theorem len_updT (L : Bxs) (i : Int) (x : Bx) : (updT L i x).length ≤ L.length + 1 := by
  unfold updT; split
  · rw [(insL_perm i x _).length_eq, List.length_cons]; have := len_remL L i; omega
  · omega

/-- The list holds the valid boxes of l at the indices of Q. -/
def Mem (l : List Bx) (Q : Nat → Prop) (L : Bxs) : Prop := ∀ e, e ∈ L ↔ ∃ j : Nat, Q j ∧ e.1 = (j : Int) ∧ l[j]? = some e.2 ∧ e.2.val = true
theorem Mem.nil (l : List Bx) {Q : Nat → Prop} (h : ∀ j, ¬ Q j) : Mem l Q [] := fun e => ⟨fun he => (by cases he), fun ⟨j, hj, _⟩ => (h j hj).elim⟩
theorem Mem.congr {l : List Bx} {Q Q' : Nat → Prop} {L : Bxs} (h : Mem l Q L) (hq : ∀ j, Q j ↔ Q' j) : Mem l Q' L := fun e => (h e).trans ⟨fun ⟨j, a, b⟩ => ⟨j, (hq j).1 a, b⟩, fun ⟨j, a, b⟩ => ⟨j, (hq j).2 a, b⟩⟩
theorem Mem.add {l : List Bx} {Q : Nat → Prop} {L L' : Bxs} {i : Nat} {x : Bx} (h : Mem l Q L) (hi : l[i]? = some x) (hL : ∀ e, e ∈ L' ↔ e ∈ L ∨ (e = ((i : Int), x) ∧ x.val = true)) : Mem l (fun j => Q j ∨ j = i) L' := fun e => by
  rw [hL]
  constructor
  · rintro (h1 | ⟨rfl, h2⟩)
    · obtain ⟨j, a, b⟩ := (h e).1 h1; exact ⟨j, .inl a, b⟩
    · exact ⟨i, .inr rfl, rfl, hi, h2⟩
  · rintro ⟨j, a | rfl, b, c, d⟩
    · exact .inl ((h e).2 ⟨j, a, b, c, d⟩)
    · rw [hi] at c
      obtain ⟨e1, e2⟩ := e
      dsimp only at b c d ⊢
      obtain rfl := Option.some.inj c
      subst b
      exact .inr ⟨rfl, d⟩
theorem Mem.no {l : List Bx} {Q : Nat → Prop} {L : Bxs} (h : Mem l Q L) {i : Int} (hi : ∀ j : Nat, Q j → i ≠ j) : ∀ e ∈ L, e.1 ≠ i := fun e he hh => by
  obtain ⟨j, a, b, _⟩ := (h e).1 he
  exact hi j a (hh.symm.trans b)
theorem Mem.ins {l : List Bx} {Q : Nat → Prop} {L : Bxs} {i : Nat} {x : Bx} (h : Mem l Q L) (hi : l[i]? = some x) (hQ : ¬ Q i) (hn : L.length < 4096) : Mem l (fun j => Q j ∨ j = i) (insT L (i : Int) x) :=
  h.add hi fun e => by
    rw [mem_insT, insC_zero, look_none.2 (h.no fun j hj hh => hQ (by have : i = j := by omega
                                                                     rw [this]; exact hj))]
    simp [hn]
theorem Mem.eq {l : List Bx} {Q : Nat → Prop} {L L' : Bxs} (h : Mem l Q L) (h' : Mem l Q L') (s : Srt L) (s' : Srt L') : L = L' := by
  have nd : ∀ {L : Bxs}, Srt L → L.Nodup := fun h => by
    refine List.Pairwise.imp ?_ h
    intro a b hab e; subst e; omega
  exact srt_ext s s' ((List.perm_ext_iff_of_nodup (nd s) (nd s')).2 fun e => (h e).trans (h' e).symm)

/-- What a round of the second loop leaves. -/
theorem mem_round {l : List Bx} {Q : Nat → Prop} {L : Bxs} {i : Nat} {x y : Bx} (h : Mem l Q L) (hi : l[i]? = some x) (hQ : ¬ Q i) (hn : L.length < 4000) :
    (updC (remL (insT (insT L (-1 - (i : Int)) x) (i : Int) y) (-1 - (i : Int))) (i : Int) x = 0 → Mem l (fun j => Q j ∨ j = i) (updT (remL (insT (insT L (-1 - (i : Int)) x) (i : Int) y) (-1 - (i : Int))) (i : Int) x)) ∧
    (¬ updC (remL (insT (insT L (-1 - (i : Int)) x) (i : Int) y) (-1 - (i : Int))) (i : Int) x = 0 → Mem l (fun j => Q j ∨ j = i) (insT (remL (updT (remL (insT (insT L (-1 - (i : Int)) x) (i : Int) y) (-1 - (i : Int))) (i : Int) x) (i : Int)) (i : Int) x)) := by
  have n1 : ∀ e ∈ L, e.1 ≠ (i : Int) := h.no fun j hj hh => hQ (by have : i = j := by omega
                                                                   rw [this]; exact hj)
  have n2 : ∀ e ∈ L, e.1 ≠ -1 - (i : Int) := h.no fun j hj hh => by omega
  obtain ⟨L3, e3⟩ : ∃ L3, remL (insT (insT L (-1 - (i : Int)) x) (i : Int) y) (-1 - (i : Int)) = L3 := ⟨_, rfl⟩
  have hl3 : L3.length ≤ L.length + 2 := by
    rw [← e3]
    have a := len_remL (insT (insT L (-1 - (i : Int)) x) (i : Int) y) (-1 - (i : Int))
    have b := len_insT (insT L (-1 - (i : Int)) x) (i : Int) y
    have c := len_insT L (-1 - (i : Int)) x
    omega
  have m3 : ∀ e, e ∈ L3 ∧ e.1 ≠ (i : Int) ↔ e ∈ L := fun e => by
    rw [← e3, mem_remL, mem_insT, mem_insT]
    constructor
    · rintro ⟨⟨(h1 | ⟨rfl, _⟩) | ⟨rfl, _⟩, h2⟩, h3⟩
      · exact h1
      · exact (h2 rfl).elim
      · exact (h3 rfl).elim
    · intro h1; exact ⟨⟨.inl (.inl h1), n2 e h1⟩, n1 e h1⟩
  rw [e3]
  refine ⟨fun hu => h.add hi fun e => ?_, fun hu => h.add hi fun e => ?_⟩
  · unfold updT; rw [if_pos hu, mem_insL, mem_remL, m3]
    have hv := (updC_zero.1 hu).1
    simp [hv, or_comm]
  · have e4 : updT L3 (i : Int) x = L3 := by unfold updT; rw [if_neg hu]
    have hl4 := len_remL L3 (i : Int)
    rw [e4, mem_insT, mem_remL, m3, insC_zero, look_none.2 fun e he => (mem_remL.1 he).2]
    have hlt : (remL L3 (i : Int)).length < 4096 := by omega
    simp [hlt]

end Go.Proofs.Ytdldlcibjjccpaa
