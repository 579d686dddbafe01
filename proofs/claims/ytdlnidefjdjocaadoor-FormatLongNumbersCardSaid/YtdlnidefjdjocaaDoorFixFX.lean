/- Contracts of the reference of chapter 8, continued: identifiers and fields. -/
import Derived.Test.YtdlnidefjdjocaaDoorFixFQ
set_option linter.unusedVariables false
namespace Go.Proofs.YtdlnidefjdjocaaDoor
open Go.RowKit Fm

theorem str_emp {bs : List Int} : ((strOfNums bs).toList != []) = !bs.isEmpty := by
  rw [str_list]; cases bs <;> simp
theorem str_emp2 {bs : List Int} : ((strOfNums bs).toList == []) = bs.isEmpty := by
  rw [str_list]; cases bs <;> simp

set_option maxHeartbeats 1000000 in
theorem risf_b (bs : List Int) (hB : isB bs) (hl : bs.length ≤ 1000000) (w : World) : Calls Tryd.prog 14 #[.string (strOfNums bs)] w fun e w' => e = .returned (.bool (isF bs)) ∧ Below w.heap.size w w' := by
  obtain ⟨R, hR⟩ : ∃ R, isF bs = R := ⟨_, rfl⟩
  rw [hR]
  have hsz : (strOfNums bs).size = bs.length := strOfNums_size bs
  have hix : ∀ k (h : k < (strOfNums bs).size), (((strOfNums bs)[k]'h).toNat : Int) = bs[k]'(by rw [hsz] at h; exact h) := fun k h => str_idx hB k h
  have hem : (strOfNums bs).toList.isEmpty = bs.isEmpty := by rw [str_list]; cases bs <;> rfl
  generalize strOfNums bs = T at *
  go_enter Tryd.func14, Tryd.ntmps14
  go_wp2_with fail
  go_loopw [3] (fun i wr => ∃ k : Nat, k ≤ bs.length ∧ i = .int .i64 k ∧ (∀ j (h : j < bs.length), j < k → 33 ≤ bs[j] ∧ bs[j] ≤ 126) ∧ Below w.heap.size w wr)
    (fun i _ => (bs.length - intOf i).toNat)
  case atStart => exact ⟨0, by omega, rfl, by omega, (by repeat (first | with_reducible exact Below.refl _ _ | with_reducible assumption | refine bgw ?_ (by first | (simp; done) | (simp; omega) | omega) _ | refine Below.setCell ?_ (by first | exact Nat.le_of_not_lt (by assumption) | (simp; done) | (simp; omega) | omega) _ | refine Below.alloc ?_ (by first | (simp; done) | (simp; omega) | omega) _ | refine Below.drew ?_))⟩
  case round =>
    obtain ⟨k, hk, rfl, hall, hbw⟩ := hrel
    by_cases hlt : k < bs.length
    · have i0 : (0 : Int) ≤ (k : Int) := by omega
      have i1 : (k : Int) < (bs.length : Int) := by omega
      have hx := hix k (by omega)
      have hno : ¬ (33 ≤ bs[k] ∧ bs[k] ≤ 126) → R = false := fun h => hR.symm.trans (isF_no (List.getElem_mem hlt) h)
      have hsucc : (33 ≤ bs[k] ∧ bs[k] ≤ 126) → ∀ j (h : j < bs.length), j < k + 1 → 33 ≤ bs[j] ∧ bs[j] ≤ 126 := fun g j h hj => by
        rcases (by omega : j < k ∨ j = k) with h1 | rfl
        · exact hall j h h1
        · exact g
      clear hix hall hem
      generalize bs[k] = x at *
      by_cases x1 : x < 33
      focus
        obtain rfl := hno (by omega)
        clear hsucc hno
        go_wp2_with fail
        go_ret
        exact ⟨rfl, (by repeat (first | with_reducible exact Below.refl _ _ | with_reducible assumption | refine bgw ?_ (by first | (simp; done) | (simp; omega) | omega) _ | refine Below.setCell ?_ (by first | exact Nat.le_of_not_lt (by assumption) | (simp; done) | (simp; omega) | omega) _ | refine Below.alloc ?_ (by first | (simp; done) | (simp; omega) | omega) _ | refine Below.drew ?_))⟩
      by_cases x2 : 126 < x
      focus
        obtain rfl := hno (by omega)
        clear hsucc hno
        go_wp2_with fail
        go_ret
        exact ⟨rfl, (by repeat (first | with_reducible exact Below.refl _ _ | with_reducible assumption | refine bgw ?_ (by first | (simp; done) | (simp; omega) | omega) _ | refine Below.setCell ?_ (by first | exact Nat.le_of_not_lt (by assumption) | (simp; done) | (simp; omega) | omega) _ | refine Below.alloc ?_ (by first | (simp; done) | (simp; omega) | omega) _ | refine Below.drew ?_))⟩
      have hg := hsucc (by omega)
      clear hsucc hno
      go_wp2_with fail
      exact ⟨⟨k + 1, by omega, by go_num, hg, hbw⟩, by (try go_num); simp [intOf]; (try omega)⟩
    · obtain rfl : k = bs.length := by omega
      have i1 : ¬ (bs.length : Int) < (bs.length : Int) := by omega
      have hR2 : Hid (R = !bs.isEmpty) := by
        show _ = _
        rw [← hR]
        cases hb : bs.isEmpty
        · exact isF_of (by intro e; rw [e] at hb; simp at hb) fun j h => hall j h h
        · rw [List.isEmpty_iff] at hb; rw [hb]; rfl
      clear hix hall hR
      go_wp2_with fail
      go_ret
      exact ⟨by rw [hR2.out] <;> rfl, (by repeat (first | with_reducible exact Below.refl _ _ | with_reducible assumption | refine bgw ?_ (by first | (simp; done) | (simp; omega) | omega) _ | refine Below.setCell ?_ (by first | exact Nat.le_of_not_lt (by assumption) | (simp; done) | (simp; omega) | omega) _ | refine Below.alloc ?_ (by first | (simp; done) | (simp; omega) | omega) _ | refine Below.drew ?_))⟩

set_option maxHeartbeats 1000000 in
theorem rident_b (bs : List Int) (hB : isB bs) (hl : bs.length ≤ 1000000) (w : World) : Calls Tryd.prog 26 #[.string (strOfNums bs)] w fun e w' => e = .returned (.bool (idt bs)) ∧ Below w.heap.size w w' := by
  obtain ⟨R, hR⟩ : ∃ R, idt bs = R := ⟨_, rfl⟩
  rw [hR]
  have hsz : (strOfNums bs).size = bs.length := strOfNums_size bs
  have hix : ∀ k (h : k < (strOfNums bs).size), (((strOfNums bs)[k]'h).toNat : Int) = bs[k]'(by rw [hsz] at h; exact h) := fun k h => str_idx hB k h
  generalize strOfNums bs = T at *
  go_enter Tryd.func26, Tryd.ntmps26
  go_wp2_with fail
  go_loopw [3] (fun i wr => ∃ k : Nat, k ≤ bs.length ∧ i = .int .i64 k ∧ (∀ j (h : j < bs.length), j < k → isX bs[j] = true ∧ (j = 0 → isL bs[j] = true)) ∧ Below w.heap.size w wr)
    (fun i _ => (bs.length - intOf i).toNat)
  case atStart => exact ⟨0, by omega, rfl, by omega, (by repeat (first | with_reducible exact Below.refl _ _ | with_reducible assumption | refine bgw ?_ (by first | (simp; done) | (simp; omega) | omega) _ | refine Below.setCell ?_ (by first | exact Nat.le_of_not_lt (by assumption) | (simp; done) | (simp; omega) | omega) _ | refine Below.alloc ?_ (by first | (simp; done) | (simp; omega) | omega) _ | refine Below.drew ?_))⟩
  case round =>
    obtain ⟨k, hk, rfl, hall, hbw⟩ := hrel
    by_cases hlt : k < bs.length
    · have i0 : (0 : Int) ≤ (k : Int) := by omega
      have i1 : (k : Int) < (bs.length : Int) := by omega
      have hx := hix k (by omega)
      have hno : ¬ (isX bs[k] = true ∧ (k = 0 → isL bs[k] = true)) → R = false := fun h => by
        rw [← hR, Bool.eq_false_iff]
        intro e
        obtain ⟨e1, e2, e3, e4⟩ := idt_iff.1 e
        exact h ⟨e4 _ (List.getElem_mem hlt), fun e0 => by subst e0; exact e3 hlt⟩
      have hsucc : (isX bs[k] = true ∧ (k = 0 → isL bs[k] = true)) → ∀ j (h : j < bs.length), j < k + 1 → isX bs[j] = true ∧ (j = 0 → isL bs[j] = true) := fun g j h hj => by
        rcases (by omega : j < k ∨ j = k) with h1 | rfl
        · exact hall j h h1
        · exact g
      clear hix hall
      generalize bs[k] = x at *
      simp only [isL_iff, isX_iff] at hno
      by_cases x1 : 97 ≤ x ∧ x ≤ 122
      focus
        obtain ⟨x1, x2⟩ := x1
        have hg := hsucc ⟨isX_iff.2 (.inl ⟨x1, x2⟩), fun _ => isL_iff.2 ⟨x1, x2⟩⟩
        clear hsucc hno
        go_wp2_with fail
        exact ⟨⟨k + 1, by omega, by go_num, hg, hbw⟩, by (try go_num); simp [intOf]; (try omega)⟩
      by_cases hk0 : k = 0
      focus
        obtain rfl := hno (by omega)
        subst hk0
        clear hsucc hno
        rcases (by omega : ¬ 97 ≤ x ∨ (97 ≤ x ∧ ¬ x ≤ 122)) with x2 | ⟨x2, x3⟩
        all_goals
          clear x1
          go_wp2_with fail
          go_ret
          exact ⟨rfl, (by repeat (first | with_reducible exact Below.refl _ _ | with_reducible assumption | refine bgw ?_ (by first | (simp; done) | (simp; omega) | omega) _ | refine Below.setCell ?_ (by first | exact Nat.le_of_not_lt (by assumption) | (simp; done) | (simp; omega) | omega) _ | refine Below.alloc ?_ (by first | (simp; done) | (simp; omega) | omega) _ | refine Below.drew ?_))⟩
      have hkb : ((k : Int) == 0) = false := by rw [beq_eq_false_iff_ne]; omega
      by_cases x45 : x = 45
      focus
        subst x45
        have hg := hsucc ⟨isX_iff.2 (.inr (.inl rfl)), fun h => absurd h hk0⟩
        clear hsucc hno hk0 x1
        go_wp2_with fail
        exact ⟨⟨k + 1, by omega, by go_num, hg, hbw⟩, by (try go_num); simp [intOf]; (try omega)⟩
      have x46 : (x != 45) = true := by simp [x45]
      by_cases x48 : 48 ≤ x ∧ x ≤ 57
      focus
        obtain ⟨x2, x3⟩ := x48
        have x4 : ¬ 97 ≤ x := by omega
        have x5 : ¬ x < 48 := by omega
        have x6 : ¬ 57 < x := by omega
        have hg := hsucc ⟨isX_iff.2 (.inr (.inr ⟨x2, x3⟩)), fun h => absurd h hk0⟩
        clear hsucc hno hk0 x1 x45
        go_wp2_with fail
        exact ⟨⟨k + 1, by omega, by go_num, hg, hbw⟩, by (try go_num); simp [intOf]; (try omega)⟩
      obtain rfl := hno (by omega)
      clear hsucc hno hk0 x45
      rcases (by omega : (¬ 97 ≤ x ∧ x < 48) ∨ (¬ 97 ≤ x ∧ ¬ x < 48 ∧ 57 < x) ∨ (97 ≤ x ∧ ¬ x ≤ 122 ∧ ¬ x < 48 ∧ 57 < x)) with ⟨x2, x3⟩ | ⟨x2, x3, x4⟩ | ⟨x2, x3, x4, x5⟩
      all_goals
        clear x1 x48
        go_wp2_with fail
        go_ret
        exact ⟨rfl, (by repeat (first | with_reducible exact Below.refl _ _ | with_reducible assumption | refine bgw ?_ (by first | (simp; done) | (simp; omega) | omega) _ | refine Below.setCell ?_ (by first | exact Nat.le_of_not_lt (by assumption) | (simp; done) | (simp; omega) | omega) _ | refine Below.alloc ?_ (by first | (simp; done) | (simp; omega) | omega) _ | refine Below.drew ?_))⟩
    · obtain rfl : k = bs.length := by omega
      have i1 : ¬ (bs.length : Int) < (bs.length : Int) := by omega
      have hR2 : R = true ↔ 1 ≤ bs.length ∧ bs.length ≤ 24 := by
        rw [← hR, idt_iff]
        exact ⟨fun h => ⟨h.1, h.2.1⟩, fun h => ⟨h.1, h.2, fun h0 => (hall 0 h0 h0).2 rfl, fun x hx => by obtain ⟨j, hj, rfl⟩ := List.mem_iff_getElem.1 hx; exact (hall j hj hj).1⟩⟩
      clear hix hall hR
      by_cases j1 : 1 ≤ bs.length
      focus
        have j1' : (1 : Int) ≤ (bs.length : Int) := by omega
        by_cases j2 : bs.length ≤ 24
        focus
          have j2' : (bs.length : Int) ≤ 24 := by omega
          obtain rfl := hR2.2 ⟨j1, j2⟩
          clear hR2 j1 j2
          go_wp2_with fail
          go_ret
          exact ⟨rfl, (by repeat (first | with_reducible exact Below.refl _ _ | with_reducible assumption | refine bgw ?_ (by first | (simp; done) | (simp; omega) | omega) _ | refine Below.setCell ?_ (by first | exact Nat.le_of_not_lt (by assumption) | (simp; done) | (simp; omega) | omega) _ | refine Below.alloc ?_ (by first | (simp; done) | (simp; omega) | omega) _ | refine Below.drew ?_))⟩
        have j2' : ¬ (bs.length : Int) ≤ 24 := by omega
        obtain rfl : R = false := by rw [Bool.eq_false_iff]; intro e; exact j2 (hR2.1 e).2
        clear hR2 j1 j2
        go_wp2_with fail
        go_ret
        exact ⟨rfl, (by repeat (first | with_reducible exact Below.refl _ _ | with_reducible assumption | refine bgw ?_ (by first | (simp; done) | (simp; omega) | omega) _ | refine Below.setCell ?_ (by first | exact Nat.le_of_not_lt (by assumption) | (simp; done) | (simp; omega) | omega) _ | refine Below.alloc ?_ (by first | (simp; done) | (simp; omega) | omega) _ | refine Below.drew ?_))⟩
      have j1' : ¬ (1 : Int) ≤ (bs.length : Int) := by omega
      obtain rfl : R = false := by rw [Bool.eq_false_iff]; intro e; exact j1 (hR2.1 e).1
      clear hR2 j1
      go_wp2_with fail
      go_ret
      exact ⟨rfl, (by repeat (first | with_reducible exact Below.refl _ _ | with_reducible assumption | refine bgw ?_ (by first | (simp; done) | (simp; omega) | omega) _ | refine Below.setCell ?_ (by first | exact Nat.le_of_not_lt (by assumption) | (simp; done) | (simp; omega) | omega) _ | refine Below.alloc ?_ (by first | (simp; done) | (simp; omega) | omega) _ | refine Below.drew ?_))⟩

end Go.Proofs.YtdlnidefjdjocaaDoor
