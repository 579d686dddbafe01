/- What the statements of chapter 6 say of permutations. No program is imported. -/
import Derived.Test.YtdpkhjnjjegobaaPm
set_option linter.unusedVariables false
namespace Go.Proofs.Ytdpkhjnjjegobaa.Pm
open Go

theorem swp_perm (l : List Int) {i j : Nat} (hi : i < l.length) (hj : j < l.length) : (swp l i j).Perm l := by
  by_cases e : i = j
  · subst e
    have : swp l i i = l := by
      apply List.ext_getElem
      · simp [swp]
      · intro k h1 h2
        simp only [swp, List.getElem_set]
        split
        · rename_i h; subst h; simp [hi]
        · rfl
    rw [this]
  · refine List.perm_iff_count.2 fun a => ?_
    have g1 : l.getD j 0 = l[j] := by simp [hj]
    have g2 : l.getD i 0 = l[i] := by simp [hi]
    unfold swp
    rw [g1, g2, List.count_set (by simpa using hj), List.count_set hi, List.getElem_set, if_neg e]
    have h1 : 0 < List.count l[i] l := List.count_pos_iff.2 (List.getElem_mem hi)
    have h2 : 0 < List.count l[j] l := List.count_pos_iff.2 (List.getElem_mem hj)
    by_cases k1 : l[i] = a <;> by_cases k2 : l[j] = a
    · subst k1; simp [k2]
    · subst k1; simp [k2]
    · subst k2; simp [k1]
    · simp [k1, k2]
theorem shuf_perm : ∀ (i : Nat) (l : List Int) (s : Int), i < l.length ∨ i = 0 → (shuf i l s).1.Perm l
  | 0, l, s, _ => List.Perm.refl _
  | i + 1, l, s, h => by
    have hi : i + 1 < l.length := by omega
    obtain ⟨x0, x1⟩ := ik_in (n := (i : Int) + 1 + 1) (s := s) (by omega)
    rw [shuf]
    exact (shuf_perm i _ _ (by rw [swp_length]; omega)).trans (swp_perm l hi (by omega))
theorem perm_isPerm (n s : Int) : isPerm (perm n s).1 = true := by
  unfold perm
  split
  · rfl
  · have h := shuf_perm (n.toNat - 1) (rng n.toNat) s (by simp; omega)
    have hl : (shuf (n.toNat - 1) (rng n.toNat) s).1.length = n.toNat := by rw [shuf_length]; simp
    exact isPerm_iff.2 (by rw [hl]; exact h)
theorem perm_length {n s : Int} (h0 : 0 ≤ n) (h1 : n ≤ 4096) : (perm n s).1.length = n.toNat := by
  unfold perm; rw [if_neg (by omega), shuf_length]; simp

theorem perm_small {n : Int} (s : Int) (h : ¬ (60 < n ∧ n ≤ 4096)) : (perm n s).1.length ≤ 60 := by
  by_cases h1 : n < 0 ∨ 4096 < n
  · simp [perm, h1]
  · rw [perm_length (by omega) (by omega)]; omega
theorem inv_length {xs : List Int} (h : isPerm xs = true) : (inv xs).length = xs.length := by simp [inv, h]
theorem inv_get {xs : List Int} (h : isPerm xs = true) {i : Nat} (hi : i < (inv xs).length) : (inv xs)[i] = ix xs i := by simp [inv, h, rng]
theorem app_length {α : Type} {d : α} {ls : List α} {xs : List Int} (h : isPerm xs = true) (hl : ls.length = xs.length) : (app d ls xs).length = xs.length := by simp [app, h, hl]
theorem app_get {α : Type} {d : α} {ls : List α} {xs : List Int} (h : isPerm xs = true) (hl : ls.length = xs.length) {i : Nat} (hi : i < (app d ls xs).length) : (app d ls xs)[i] = ls.getD (xs[i]'(by rw [app_length h hl] at hi; exact hi)).toNat d := by
  simp [app, h, hl]
theorem ix_in {xs : List Int} (h : isPerm xs = true) {i : Nat} (hi : i < xs.length) : ∃ k : Nat, ∃ hk : k < xs.length, xs[k] = i ∧ ix xs i = k := ix_some (of_decide_eq_true h i hi)
theorem isPerm_inv {xs : List Int} (h : isPerm xs = true) : isPerm (inv xs) = true := by
  refine decide_eq_true fun i hi => ?_
  rw [inv_length h] at hi
  obtain ⟨x0, x1⟩ := isPerm_in h (List.getElem_mem hi)
  have hx : (xs[i].toNat : Nat) < (inv xs).length := by rw [inv_length h]; omega
  have e : (inv xs)[xs[i].toNat] = i := by
    rw [inv_get h, show ((xs[i].toNat : Nat) : Int) = xs[i] from by omega, ix_get hi (isPerm_nodup h)]
  exact e ▸ List.getElem_mem hx
theorem app_perm_get {a b : List Int} (ha : isPerm a = true) (hb : isPerm b = true) (hl : a.length = b.length) {i : Nat} (hi : i < b.length) :
    ∃ h1 : (b[i]).toNat < a.length, (app 0 a b)[i]'(by rw [app_length hb hl]; exact hi) = a[(b[i]).toNat] := by
  obtain ⟨x0, x1⟩ := isPerm_in hb (List.getElem_mem hi)
  refine ⟨by omega, ?_⟩
  rw [app_get hb hl]
  have : (b[i]).toNat < a.length := by omega
  simp [this]
theorem isPerm_app {a b : List Int} (ha : isPerm a = true) (hb : isPerm b = true) (hl : a.length = b.length) : isPerm (app 0 a b) = true := by
  refine decide_eq_true fun i hi => ?_
  rw [app_length hb hl] at hi
  obtain ⟨j, hj, ej, _⟩ := ix_in ha (i := i) (by omega)
  obtain ⟨k, hk, ek, _⟩ := ix_in hb (i := j) (by omega)
  obtain ⟨h1, e⟩ := app_perm_get ha hb hl hk
  have e2 : (app 0 a b)[k]'(by rw [app_length hb hl]; exact hk) = i := by
    rw [e, ← ej]; congr 1; omega
  exact e2 ▸ List.getElem_mem _
/-- Applying a permutation and then its inverse restores the items. -/
theorem app_inv {α : Type} (d : α) {ls : List α} {o : List Int} (h : isPerm o = true) (hl : ls.length = o.length) : app d (app d ls o) (inv o) = ls := by
  have l1 := app_length (d := d) h hl
  have hi := isPerm_inv h
  have l2 : (app d ls o).length = (inv o).length := by rw [l1, inv_length h]
  apply List.ext_getElem
  · rw [app_length hi l2, inv_length h, hl]
  · intro i h1 h2
    rw [app_get hi l2, inv_get h]
    obtain ⟨k, hk, ek, ei⟩ := ix_in h (i := i) (by omega)
    rw [ei, Int.toNat_natCast]
    have hk' : k < (app d ls o).length := by rw [l1]; exact hk
    rw [List.getD_eq_getElem?_getD, List.getElem?_eq_getElem hk', Option.getD_some, app_get h hl]
    simp [ek, h2]
/-- A permutation composed with its inverse. -/
theorem comp_inv {o : List Int} (h : isPerm o = true) : comp o (inv o) = rng o.length := by
  have hi := isPerm_inv h
  have hl : o.length = (inv o).length := (inv_length h).symm
  unfold comp; rw [if_pos h]
  apply List.ext_getElem
  · rw [app_length hi hl, inv_length h]; simp
  · intro i h1 h2
    have hio : i < o.length := by simpa using h2
    rw [app_get hi hl, inv_get h, rng_get]
    obtain ⟨k, hk, ek, ei⟩ := ix_in h hio
    rw [ei, Int.toNat_natCast]
    simp [hk, ek]
/-- One after the other is the composition. -/
theorem app_comp {α : Type} (d : α) {ls : List α} {a b : List Int} (ha : isPerm a = true) (hb : isPerm b = true) (h1 : ls.length = a.length) (h2 : a.length = b.length) : app d (app d ls a) b = app d ls (comp a b) := by
  have la := app_length (d := d) ha h1
  have hc : comp a b = app 0 a b := by unfold comp; rw [if_pos ha]
  have hcp := isPerm_app ha hb h2
  have lc : (app 0 a b).length = b.length := app_length hb h2
  rw [hc]
  apply List.ext_getElem
  · rw [app_length hb (by rw [la, h2]), app_length hcp (by rw [lc, ← h2, h1]), lc]
  · intro i k1 k2
    have hib : i < b.length := by rw [app_length hb (by rw [la, h2])] at k1; exact k1
    rw [app_get hb (by rw [la, h2]), app_get hcp (by rw [lc, ← h2, h1])]
    obtain ⟨g1, e⟩ := app_perm_get ha hb h2 hib
    rw [e]
    have hk' : (b[i]).toNat < (app d ls a).length := by rw [la]; exact g1
    rw [List.getD_eq_getElem?_getD, List.getElem?_eq_getElem hk', Option.getD_some, app_get ha h1]
/-- The inverse of a composition. -/
theorem inv_comp {a b : List Int} (ha : isPerm a = true) (hb : isPerm b = true) (h2 : a.length = b.length) : inv (comp a b) = comp (inv b) (inv a) := by
  have hc : comp a b = app 0 a b := by unfold comp; rw [if_pos ha]
  have hcp := isPerm_app ha hb h2
  have lc : (app 0 a b).length = b.length := app_length hb h2
  have hia := isPerm_inv ha
  have hib := isPerm_inv hb
  have hl : (inv b).length = (inv a).length := by rw [inv_length ha, inv_length hb, h2]
  have hc2 : comp (inv b) (inv a) = app 0 (inv b) (inv a) := by unfold comp; rw [if_pos hib]
  rw [hc, hc2]
  apply List.ext_getElem
  · rw [inv_length hcp, lc, app_length hia hl, inv_length ha, h2]
  · intro i k1 k2
    have hi' : i < b.length := by rw [inv_length hcp, lc] at k1; exact k1
    rw [inv_get hcp, app_get hia hl, inv_get ha]
    obtain ⟨j, hj, ej, eij⟩ := ix_in ha (i := i) (by omega)
    obtain ⟨k, hk, ek, ejk⟩ := ix_in hb (i := j) (by omega)
    rw [eij, Int.toNat_natCast]
    have hj' : j < (inv b).length := by rw [inv_length hb]; omega
    rw [List.getD_eq_getElem?_getD, List.getElem?_eq_getElem hj', Option.getD_some, inv_get hb, ejk]
    obtain ⟨g1, e⟩ := app_perm_get ha hb h2 hk
    have hk' : k < (app 0 a b).length := by rw [lc]; exact hk
    have e2 : (app 0 a b)[k] = i := by rw [e, ← ej]; congr 1; omega
    rw [← e2]; exact ix_get hk' (isPerm_nodup hcp)
theorem comp_length {a b : List Int} (ha : isPerm a = true) (hb : isPerm b = true) (h2 : a.length = b.length) : (comp a b).length = b.length := by
  unfold comp; rw [if_pos ha]; exact app_length hb h2

end Go.Proofs.Ytdpkhjnjjegobaa.Pm
