/- Contracts of package format: isField and IsIdentifier (loops over a string's characters). -/
import Derived.Test.YtdlnidefjdjocaaDoorLibF
set_option linter.unusedVariables false
namespace Go.Proofs.YtdlnidefjdjocaaDoor
open Go.RowKit Fm

set_option maxHeartbeats 1000000 in
theorem xisf_b (bs : List Int) (hB : isB bs) (hl : bs.length ≤ 1000000) (w : World) : Calls Tryd.prog 34 #[.string (strOfNums bs)] w fun e w' => e = .returned (.bool (isF bs)) ∧ Below w.heap.size w w' := by
  obtain ⟨R, hR⟩ : ∃ R, isF bs = R := ⟨_, rfl⟩
  rw [hR]
  have hsz : (strOfNums bs).size = bs.length := strOfNums_size bs
  have hlo := fun {wr w : World} {I B k : Nat} => @nx_lo bs hB wr w I B k
  have hhi := fun {wr w : World} {I B k : Nat} => @nx_hi bs hB wr w I B k
  have hen := fun {wr : World} {I : Nat} => @nx_end bs wr I
  have hem : ((strOfNums bs).toList != []) = !bs.isEmpty := str_emp
  have hem2 : (strOfNums bs).toList.isEmpty = bs.isEmpty := by rw [str_list]; cases bs <;> rfl
  generalize strOfNums bs = T at *
  go_enter Tryd.func34, Tryd.ntmps34
  go_wp2_with fail
  go_loopw [] (fun wr => ∃ k : Nat, k ≤ bs.length ∧ wr.heap[w.heap.size]? = some (.stringIter T k) ∧ (∀ j (h : j < bs.length), j < k → 33 ≤ bs[j] ∧ bs[j] ≤ 126) ∧ Below w.heap.size w wr)
    (fun wr => bs.length - wr.iterPos w.heap.size)
  case atStart => exact ⟨0, by omega, World.iter_heap w T 0, by omega, (Below.refl _ w).alloc (Nat.le_refl _) _⟩
  case round =>
    obtain ⟨k, hk, hit, hall, hbw⟩ := hrel
    have hsz2 := hbw.size
    by_cases hlt : k < bs.length
    · have hno : ¬ (33 ≤ bs[k] ∧ bs[k] ≤ 126) → R = false := fun h => hR.symm.trans (isF_no (List.getElem_mem hlt) h)
      have hsucc : (33 ≤ bs[k] ∧ bs[k] ≤ 126) → ∀ j (h : j < bs.length), j < k + 1 → 33 ≤ bs[j] ∧ bs[j] ≤ 126 := fun g j h hj => by
        rcases (by omega : j < k ∨ j = k) with h1 | rfl
        · exact hall j h h1
        · exact g
      by_cases h128 : bs[k] < 128
      · obtain ⟨W, hnx, hit2, hb2, hs2, -⟩ := hlo hit hlt h128 hbw (Nat.le_refl _)
        clear hlo hhi hen hall
        generalize bs[k] = x at *
        by_cases x1 : x ≤ 32
        focus
          obtain rfl := hno (by omega)
          clear hsucc hno
          go_wp2_with fail
          go_ret
          exact ⟨rfl, (by repeat (first | with_reducible exact Below.refl _ _ | with_reducible assumption | refine bgw ?_ (by first | (simp; done) | (simp; omega) | omega) _ | refine Below.setCell ?_ (by first | exact Nat.le_of_not_lt (by assumption) | (simp; done) | (simp; omega) | omega) _ | refine Below.alloc ?_ (by first | (simp; done) | (simp; omega) | omega) _ | refine Below.drew ?_))⟩
        by_cases x2 : 126 < x
        focus
          obtain rfl := hno (by omega)
          clear hsucc hno
          go_wp2_with fail
          go_ret
          exact ⟨rfl, (by repeat (first | with_reducible exact Below.refl _ _ | with_reducible assumption | refine bgw ?_ (by first | (simp; done) | (simp; omega) | omega) _ | refine Below.setCell ?_ (by first | exact Nat.le_of_not_lt (by assumption) | (simp; done) | (simp; omega) | omega) _ | refine Below.alloc ?_ (by first | (simp; done) | (simp; omega) | omega) _ | refine Below.drew ?_))⟩
        have hg := hsucc (by omega)
        clear hsucc hno
        go_wp2_with fail
        exact ⟨⟨k + 1, by omega, hit2, hg, hb2⟩, by simp [World.iterPos, hit, hit2]; omega⟩
      · obtain ⟨W, r, hnx, r0, r1, hb2, hs2, -⟩ := hhi hit hlt (by omega) hbw (Nat.le_refl _)
        obtain rfl := hno (by omega)
        have x1 : ¬ r ≤ 32 := by omega
        have x2 : 126 < r := by omega
        clear hlo hhi hen hall hsucc hno
        go_wp2_with fail
        go_ret
        exact ⟨rfl, (by repeat (first | with_reducible exact Below.refl _ _ | with_reducible assumption | refine bgw ?_ (by first | (simp; done) | (simp; omega) | omega) _ | refine Below.setCell ?_ (by first | exact Nat.le_of_not_lt (by assumption) | (simp; done) | (simp; omega) | omega) _ | refine Below.alloc ?_ (by first | (simp; done) | (simp; omega) | omega) _ | refine Below.drew ?_))⟩
    · obtain rfl : k = bs.length := by omega
      have hnx := hen hit
      have hR2 : Hid (R = !bs.isEmpty) := by
        show _ = _
        rw [← hR]
        cases hb : bs.isEmpty
        · exact isF_of (by intro e; rw [e] at hb; simp at hb) fun j h => hall j h h
        · rw [List.isEmpty_iff] at hb; rw [hb]; rfl
      clear hlo hhi hen hall hR
      go_wp2_with fail
      go_ret
      exact ⟨by rw [hR2.out] <;> rfl, (by repeat (first | with_reducible exact Below.refl _ _ | with_reducible assumption | refine bgw ?_ (by first | (simp; done) | (simp; omega) | omega) _ | refine Below.setCell ?_ (by first | exact Nat.le_of_not_lt (by assumption) | (simp; done) | (simp; omega) | omega) _ | refine Below.alloc ?_ (by first | (simp; done) | (simp; omega) | omega) _ | refine Below.drew ?_))⟩

set_option maxHeartbeats 2000000 in
theorem xident_b (bs : List Int) (hB : isB bs) (hl : bs.length ≤ 1000000) (w : World) : Calls Tryd.prog 25 #[.string (strOfNums bs)] w fun e w' => e = .returned (.bool (idt bs)) ∧ Below w.heap.size w w' := by
  obtain ⟨R, hR⟩ : ∃ R, idt bs = R := ⟨_, rfl⟩
  rw [hR]
  have hsz : (strOfNums bs).size = bs.length := strOfNums_size bs
  have hem2 : (strOfNums bs).toList.isEmpty = bs.isEmpty := by rw [str_list]; cases bs <;> rfl
  by_cases h0 : bs = []
  focus
    subst h0
    obtain rfl : R = false := hR.symm.trans (by decide)
    rw [show ([] : List Int).isEmpty = true from rfl] at hem2
    generalize strOfNums [] = T at *
    go_enter Tryd.func25, Tryd.ntmps25
    go_wp2_with fail
    go_ret
    exact ⟨rfl, (by repeat (first | with_reducible exact Below.refl _ _ | with_reducible assumption | refine bgw ?_ (by first | (simp; done) | (simp; omega) | omega) _ | refine Below.setCell ?_ (by first | exact Nat.le_of_not_lt (by assumption) | (simp; done) | (simp; omega) | omega) _ | refine Below.alloc ?_ (by first | (simp; done) | (simp; omega) | omega) _ | refine Below.drew ?_))⟩
  have hpos : 0 < bs.length := by cases bs with | nil => exact absurd rfl h0 | cons x r => simp
  rw [show bs.isEmpty = false from by cases bs with | nil => exact absurd rfl h0 | cons x r => rfl] at hem2
  by_cases h24 : 24 < bs.length
  focus
    obtain rfl : R = false := by rw [← hR, Bool.eq_false_iff]; intro e; have := idt_iff.1 e; omega
    have h24' : (24 : Int) < (bs.length : Int) := by omega
    generalize strOfNums bs = T at *
    go_enter Tryd.func25, Tryd.ntmps25
    go_wp2_with fail
    go_ret
    exact ⟨rfl, (by repeat (first | with_reducible exact Below.refl _ _ | with_reducible assumption | refine bgw ?_ (by first | (simp; done) | (simp; omega) | omega) _ | refine Below.setCell ?_ (by first | exact Nat.le_of_not_lt (by assumption) | (simp; done) | (simp; omega) | omega) _ | refine Below.alloc ?_ (by first | (simp; done) | (simp; omega) | omega) _ | refine Below.drew ?_))⟩
  have h24' : ¬ (24 : Int) < (bs.length : Int) := by omega
  have hlo := fun {wr w : World} {I B k : Nat} => @nx_lo bs hB wr w I B k
  have hhi := fun {wr w : World} {I B k : Nat} => @nx_hi bs hB wr w I B k
  have hen := fun {wr : World} {I : Nat} => @nx_end bs wr I
  generalize strOfNums bs = T at *
  go_enter Tryd.func25, Tryd.ntmps25
  go_wp2_with fail
  go_loopw [] (fun wr => ∃ k : Nat, k ≤ bs.length ∧ wr.heap[w.heap.size]? = some (.stringIter T k) ∧ (∀ j (h : j < bs.length), j < k → isX bs[j] = true ∧ (j = 0 → isL bs[j] = true)) ∧ Below w.heap.size w wr)
    (fun wr => bs.length - wr.iterPos w.heap.size)
  case atStart => exact ⟨0, by omega, World.iter_heap w T 0, by omega, (Below.refl _ w).alloc (Nat.le_refl _) _⟩
  case round =>
    obtain ⟨k, hk, hit, hall, hbw⟩ := hrel
    have hsz2 := hbw.size
    by_cases hlt : k < bs.length
    · have hno : ¬ (isX bs[k] = true ∧ (k = 0 → isL bs[k] = true)) → R = false := fun h => by
        rw [← hR, Bool.eq_false_iff]
        intro e
        obtain ⟨e1, e2, e3, e4⟩ := idt_iff.1 e
        exact h ⟨e4 _ (List.getElem_mem hlt), fun e0 => by subst e0; exact e3 hlt⟩
      have hsucc : (isX bs[k] = true ∧ (k = 0 → isL bs[k] = true)) → ∀ j (h : j < bs.length), j < k + 1 → isX bs[j] = true ∧ (j = 0 → isL bs[j] = true) := fun g j h hj => by
        rcases (by omega : j < k ∨ j = k) with h1 | rfl
        · exact hall j h h1
        · exact g
      have hk0 : ((k : Int) == 0) = decide (k = 0) := by rw [Bool.eq_iff_iff]; simp
      by_cases h128 : bs[k] < 128
      · obtain ⟨W, hnx, hit2, hb2, hs2, -⟩ := hlo hit hlt h128 hbw (Nat.le_refl _)
        clear hlo hhi hen hall
        generalize bs[k] = x at *
        simp only [isL_iff, isX_iff] at hno
        by_cases xl : 97 ≤ x ∧ x ≤ 122
        focus
          obtain ⟨x1, x2⟩ := xl
          have hg := hsucc ⟨isX_iff.2 (.inl ⟨x1, x2⟩), fun _ => isL_iff.2 ⟨x1, x2⟩⟩
          have x3 : 48 ≤ x := by omega
          have x4 : ¬ x ≤ 57 := by omega
          clear hsucc hno
          go_wp2_with fail
          exact ⟨⟨k + 1, by omega, hit2, hg, hb2⟩, by simp [World.iterPos, hit, hit2]; omega⟩
        by_cases h0k : k = 0
        focus
          obtain rfl := hno (by omega)
          rw [decide_eq_true h0k] at hk0
          clear hsucc
          rcases (by omega : (¬ 48 ≤ x ∧ ¬ 97 ≤ x) ∨ (48 ≤ x ∧ x ≤ 57 ∧ ¬ 97 ≤ x) ∨ (48 ≤ x ∧ ¬ x ≤ 57 ∧ ¬ 97 ≤ x) ∨ (48 ≤ x ∧ ¬ x ≤ 57 ∧ 97 ≤ x ∧ ¬ x ≤ 122)) with ⟨x1, x2⟩ | ⟨x1, x2, x3⟩ | ⟨x1, x2, x3⟩ | ⟨x1, x2, x3, x4⟩
          all_goals
            clear xl hno
            go_wp2_with fail
            go_ret
            exact ⟨rfl, (by repeat (first | with_reducible exact Below.refl _ _ | with_reducible assumption | refine bgw ?_ (by first | (simp; done) | (simp; omega) | omega) _ | refine Below.setCell ?_ (by first | exact Nat.le_of_not_lt (by assumption) | (simp; done) | (simp; omega) | omega) _ | refine Below.alloc ?_ (by first | (simp; done) | (simp; omega) | omega) _ | refine Below.drew ?_))⟩
        rw [decide_eq_false h0k] at hk0
        by_cases x48 : 48 ≤ x ∧ x ≤ 57
        focus
          obtain ⟨x2, x3⟩ := x48
          have x4 : ¬ 97 ≤ x := by omega
          have hg := hsucc ⟨isX_iff.2 (.inr (.inr ⟨x2, x3⟩)), fun h => absurd h h0k⟩
          clear hsucc hno xl
          go_wp2_with fail
          exact ⟨⟨k + 1, by omega, hit2, hg, hb2⟩, by simp [World.iterPos, hit, hit2]; omega⟩
        by_cases x45 : x = 45
        focus
          subst x45
          have hg := hsucc ⟨isX_iff.2 (.inr (.inl rfl)), fun h => absurd h h0k⟩
          clear hsucc hno xl x48
          go_wp2_with fail
          exact ⟨⟨k + 1, by omega, hit2, hg, hb2⟩, by simp [World.iterPos, hit, hit2]; omega⟩
        have x46 : (x != 45) = true := by simp [x45]
        obtain rfl := hno (by omega)
        rcases (by omega : (¬ 48 ≤ x ∧ ¬ 97 ≤ x) ∨ (48 ≤ x ∧ ¬ x ≤ 57 ∧ ¬ 97 ≤ x) ∨ (48 ≤ x ∧ ¬ x ≤ 57 ∧ 97 ≤ x ∧ ¬ x ≤ 122)) with ⟨x1, x2⟩ | ⟨x1, x2, x3⟩ | ⟨x1, x2, x3, x4⟩
        all_goals
          clear xl x48 hno hsucc x45
          go_wp2_with fail
          go_ret
          exact ⟨rfl, (by repeat (first | with_reducible exact Below.refl _ _ | with_reducible assumption | refine bgw ?_ (by first | (simp; done) | (simp; omega) | omega) _ | refine Below.setCell ?_ (by first | exact Nat.le_of_not_lt (by assumption) | (simp; done) | (simp; omega) | omega) _ | refine Below.alloc ?_ (by first | (simp; done) | (simp; omega) | omega) _ | refine Below.drew ?_))⟩
      · obtain ⟨W, r, hnx, r0, r1, hb2, hs2, -⟩ := hhi hit hlt (by omega) hbw (Nat.le_refl _)
        obtain rfl := hno (by rintro ⟨h, -⟩; rw [isX_iff] at h; omega)
        have x1 : 48 ≤ r := by omega
        have x2 : ¬ r ≤ 57 := by omega
        have x3 : 97 ≤ r := by omega
        have x4 : ¬ r ≤ 122 := by omega
        have x46 : (r != 45) = true := by rw [bne_iff_ne]; omega
        clear hlo hhi hen hall hsucc hno
        by_cases h0k : k = 0
        · rw [decide_eq_true h0k] at hk0
          go_wp2_with fail
          go_ret
          exact ⟨rfl, (by repeat (first | with_reducible exact Below.refl _ _ | with_reducible assumption | refine bgw ?_ (by first | (simp; done) | (simp; omega) | omega) _ | refine Below.setCell ?_ (by first | exact Nat.le_of_not_lt (by assumption) | (simp; done) | (simp; omega) | omega) _ | refine Below.alloc ?_ (by first | (simp; done) | (simp; omega) | omega) _ | refine Below.drew ?_))⟩
        · rw [decide_eq_false h0k] at hk0
          go_wp2_with fail
          go_ret
          exact ⟨rfl, (by repeat (first | with_reducible exact Below.refl _ _ | with_reducible assumption | refine bgw ?_ (by first | (simp; done) | (simp; omega) | omega) _ | refine Below.setCell ?_ (by first | exact Nat.le_of_not_lt (by assumption) | (simp; done) | (simp; omega) | omega) _ | refine Below.alloc ?_ (by first | (simp; done) | (simp; omega) | omega) _ | refine Below.drew ?_))⟩
    · obtain rfl : k = bs.length := by omega
      have hnx := hen hit
      obtain rfl : R = true := by
        rw [← hR, idt_iff]
        exact ⟨by omega, by omega, fun h0 => (hall 0 h0 h0).2 rfl, fun x hx => by obtain ⟨j, hj, rfl⟩ := List.mem_iff_getElem.1 hx; exact (hall j hj hj).1⟩
      clear hlo hhi hen hall hR
      go_wp2_with fail
      go_ret
      exact ⟨rfl, (by repeat (first | with_reducible exact Below.refl _ _ | with_reducible assumption | refine bgw ?_ (by first | (simp; done) | (simp; omega) | omega) _ | refine Below.setCell ?_ (by first | exact Nat.le_of_not_lt (by assumption) | (simp; done) | (simp; omega) | omega) _ | refine Below.alloc ?_ (by first | (simp; done) | (simp; omega) | omega) _ | refine Below.drew ?_))⟩

end Go.Proofs.YtdlnidefjdjocaaDoor
