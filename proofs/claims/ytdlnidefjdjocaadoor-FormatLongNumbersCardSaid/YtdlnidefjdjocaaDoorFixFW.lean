/- Contracts of the reference of chapter 8, continued: ParseFixed. -/
import Derived.Test.YtdlnidefjdjocaaDoorFixFX
set_option linter.unusedVariables false
namespace Go.Proofs.YtdlnidefjdjocaaDoor
open Go.RowKit Fm

theorem sval_abs (bs : List Int) : (sval bs).natAbs = val (body bs) := by unfold sval; split <;> omega
theorem last_cases (bs : List Int) : bs = [] ∨ ∃ cs x, bs = cs ++ [x] := by
  by_cases h : bs = []
  · exact .inl h
  · exact .inr ⟨bs.dropLast, bs.getLast h, (List.dropLast_concat_getLast h).symm⟩

set_option maxHeartbeats 2000000 in
theorem rprsF_b (bs : List Int) (hB : isB bs) (hl : bs.length ≤ 1000000) (w : World) : Calls Tryd.prog 21 #[.string (strOfNums bs)] w fun e w' => e = .returned (.tuple #[.int .i64 (prsF bs).1, .int .i64 (prsF bs).2]) ∧ Below w.heap.size w w' := by
  rcases last_cases bs with h0 | ⟨cs, x, h0⟩
  focus
    subst h0
    have cI : ∀ w', Calls Tryd.prog 37 #[.string (strOfNums [])] w' fun e w'' => e = .returned (.bool false) ∧ Below w'.heap.size w' w'' := fun w' => risint_b [] hB hl w'
    rw [show prsF [] = (0, 3) from by decide]
    have hsz : (strOfNums []).size = 0 := rfl
    generalize strOfNums [] = T at *
    go_enter Tryd.func21, Tryd.ntmps21
    go_wp2_with (go_at_call 37; refine Calls.mono (gw_at (cI _)) ?_; rintro e w1 ⟨rfl, q, rfl⟩)
    exact bodyPost_ret (v := .tuple #[.int .i64 0, .int .i64 3]) (by simp [results, Tryd.results21, go_sem]) rfl ⟨rfl, (by repeat (first | with_reducible exact Below.refl _ _ | with_reducible assumption | refine bgw ?_ (by first | (simp; done) | (simp; omega) | omega) _ | refine Below.setCell ?_ (by first | exact Nat.le_of_not_lt (by assumption) | (simp; done) | (simp; omega) | omega) _ | refine Below.alloc ?_ (by first | (simp; done) | (simp; omega) | omega) _ | refine Below.drew ?_))⟩
  obtain ⟨L, hL⟩ : ∃ L, cs.length = L := ⟨_, rfl⟩
  have hsz : (strOfNums bs).size = L + 1 := by rw [strOfNums_size, h0]; simp [hL]
  have hlast : ∀ h, (((strOfNums bs)[L]'h).toNat : Int) = x := fun h => by
    rw [str_idx hB L h]; simp [h0, ← hL]
  have hLm : L ≤ 1000000 := by rw [h0, List.length_append, hL] at hl; omega
  by_cases hx : x = 117
  focus
    subst hx
    have hC : isB cs := fun y hy => hB y (by rw [h0]; exact List.mem_append_left _ hy)
    have hex : (strOfNums bs).extract 0 L = strOfNums cs := by rw [str_take, h0, ← hL]; simp
    have cI : ∀ w', Calls Tryd.prog 37 #[.string (strOfNums cs)] w' fun e w'' => e = .returned (.bool (isInt cs)) ∧ Below w'.heap.size w' w'' := fun w' => risint_b cs hC (by omega) w'
    have hp : prsF bs = if isInt cs = true ∧ cs ≠ [48] then (if 8191 < (sval cs).natAbs then (0, 6) else (sval cs * 65536, 0)) else (0, 3) := by
      unfold prsF; rw [h0, if_pos (by simp), List.dropLast_concat]
    rw [hp]
    have hq := str_48 hC
    cases hI : isInt cs
    focus
      rw [hI] at cI
      rw [if_neg (by simp)]
      generalize strOfNums cs = U at *
      generalize strOfNums bs = T at *
      clear hq hp hI hB h0 hl
      go_enter Tryd.func21, Tryd.ntmps21
      go_wp2_with (go_at_call 37; refine Calls.mono (gw_at (cI _)) ?_; rintro e w1 ⟨rfl, q, rfl⟩)
      exact bodyPost_ret (v := .tuple #[.int .i64 0, .int .i64 3]) (by simp [results, Tryd.results21, go_sem]) rfl ⟨rfl, (by repeat (first | with_reducible exact Below.refl _ _ | with_reducible assumption | refine bgw ?_ (by first | (simp; done) | (simp; omega) | omega) _ | refine Below.setCell ?_ (by first | exact Nat.le_of_not_lt (by assumption) | (simp; done) | (simp; omega) | omega) _ | refine Below.alloc ?_ (by first | (simp; done) | (simp; omega) | omega) _ | refine Below.drew ?_))⟩
    rw [hI] at cI
    by_cases h48 : cs = [48]
    focus
      rw [if_neg (by rintro ⟨_, h⟩; exact h h48)]
      rw [decide_eq_true h48] at hq
      generalize strOfNums cs = U at *
      generalize strOfNums bs = T at *
      clear hp hI hB h0 hl h48
      go_enter Tryd.func21, Tryd.ntmps21
      go_wp2_with (go_at_call 37; refine Calls.mono (gw_at (cI _)) ?_; rintro e w1 ⟨rfl, q, rfl⟩)
      exact bodyPost_ret (v := .tuple #[.int .i64 0, .int .i64 3]) (by simp [results, Tryd.results21, go_sem]) rfl ⟨rfl, (by repeat (first | with_reducible exact Below.refl _ _ | with_reducible assumption | refine bgw ?_ (by first | (simp; done) | (simp; omega) | omega) _ | refine Below.setCell ?_ (by first | exact Nat.le_of_not_lt (by assumption) | (simp; done) | (simp; omega) | omega) _ | refine Below.alloc ?_ (by first | (simp; done) | (simp; omega) | omega) _ | refine Below.drew ?_))⟩
    rw [if_pos ⟨rfl, h48⟩]
    rw [decide_eq_false h48] at hq
    have cV : ∀ w', Calls Tryd.prog 38 #[.string (strOfNums cs), .int .i64 8191] w' fun e w'' => e = .returned (.tuple #[.int .i64 (if 8191 < (sval cs).natAbs then 0 else sval cs), .bool (decide (¬ 8191 < (sval cs).natAbs))]) ∧ Below w'.heap.size w' w'' := fun w' => rval_b cs 8191 hI hC (by omega) (by omega) (by omega) w'
    clear hp h48
    generalize sval cs = v at *
    generalize strOfNums cs = U at *
    generalize strOfNums bs = T at *
    by_cases hv : 8191 < v.natAbs
    focus
      rw [if_pos hv]
      simp only [hv, if_true, not_true_eq_false, decide_false] at cV
      clear hv hI hB h0 hl
      go_enter Tryd.func21, Tryd.ntmps21
      go_wp2_with (first | (go_at_call 37; refine Calls.mono (gw_at (cI _)) ?_; rintro e w1 ⟨rfl, q, rfl⟩) | (go_at_call 38; refine Calls.mono (gw_at (cV _)) ?_; rintro e w1 ⟨rfl, q, rfl⟩))
      exact bodyPost_ret (v := .tuple #[.int .i64 0, .int .i64 6]) (by simp [results, Tryd.results21, go_sem]) rfl ⟨rfl, (by repeat (first | with_reducible exact Below.refl _ _ | with_reducible assumption | refine bgw ?_ (by first | (simp; done) | (simp; omega) | omega) _ | refine Below.setCell ?_ (by first | exact Nat.le_of_not_lt (by assumption) | (simp; done) | (simp; omega) | omega) _ | refine Below.alloc ?_ (by first | (simp; done) | (simp; omega) | omega) _ | refine Below.drew ?_))⟩
    rw [if_neg hv]
    simp only [hv, if_false, not_false_eq_true, decide_true] at cV
    have hv0 : -8191 ≤ v := by omega
    have hv1 : v ≤ 8191 := by omega
    clear hv hI hB h0 hl
    go_enter Tryd.func21, Tryd.ntmps21
    go_wp2_with (first | (go_at_call 37; refine Calls.mono (gw_at (cI _)) ?_; rintro e w1 ⟨rfl, q, rfl⟩) | (go_at_call 38; refine Calls.mono (gw_at (cV _)) ?_; rintro e w1 ⟨rfl, q, rfl⟩))
    exact bodyPost_ret (v := .tuple #[.int .i64 (v * 65536), .int .i64 0]) (by simp [results, Tryd.results21, go_sem]) rfl ⟨rfl, (by repeat (first | with_reducible exact Below.refl _ _ | with_reducible assumption | refine bgw ?_ (by first | (simp; done) | (simp; omega) | omega) _ | refine Below.setCell ?_ (by first | exact Nat.le_of_not_lt (by assumption) | (simp; done) | (simp; omega) | omega) _ | refine Below.alloc ?_ (by first | (simp; done) | (simp; omega) | omega) _ | refine Below.drew ?_))⟩
  have hxb : (x == 117) = false := by rw [beq_eq_false_iff_ne]; exact hx
  have cI : ∀ w', Calls Tryd.prog 37 #[.string (strOfNums bs)] w' fun e w'' => e = .returned (.bool (isInt bs)) ∧ Below w'.heap.size w' w'' := fun w' => risint_b bs hB hl w'
  have hp : prsF bs = if isInt bs = true ∧ (bs = [48] ∨ (sval bs).natAbs % 65536 ≠ 0) then (if 536870911 < (sval bs).natAbs then (0, 6) else (sval bs, 0)) else (0, 3) := by
    unfold prsF; rw [if_neg (by rw [h0]; simp; exact hx)]
  rw [hp]
  have hq := str_48 hB
  have hq2 : ((strOfNums bs).toList != [48]) = !decide (bs = [48]) := by rw [bne, hq]
  cases hI : isInt bs
  focus
    rw [hI] at cI
    rw [if_neg (by simp)]
    generalize strOfNums bs = T at *
    clear hq hq2 hp hI hB h0 hl hx
    go_enter Tryd.func21, Tryd.ntmps21
    go_wp2_with (go_at_call 37; refine Calls.mono (gw_at (cI _)) ?_; rintro e w1 ⟨rfl, q, rfl⟩)
    exact bodyPost_ret (v := .tuple #[.int .i64 0, .int .i64 3]) (by simp [results, Tryd.results21, go_sem]) rfl ⟨rfl, (by repeat (first | with_reducible exact Below.refl _ _ | with_reducible assumption | refine bgw ?_ (by first | (simp; done) | (simp; omega) | omega) _ | refine Below.setCell ?_ (by first | exact Nat.le_of_not_lt (by assumption) | (simp; done) | (simp; omega) | omega) _ | refine Below.alloc ?_ (by first | (simp; done) | (simp; omega) | omega) _ | refine Below.drew ?_))⟩
  rw [hI] at cI
  have cV : ∀ w', Calls Tryd.prog 38 #[.string (strOfNums bs), .int .i64 536870911] w' fun e w'' => e = .returned (.tuple #[.int .i64 (if 536870911 < (sval bs).natAbs then 0 else sval bs), .bool (decide (¬ 536870911 < (sval bs).natAbs))]) ∧ Below w'.heap.size w' w'' := fun w' => rval_b bs 536870911 hI hB (by omega) (by omega) (by omega) w'
  have cR : ∀ w', Calls Tryd.prog 39 #[.string (strOfNums bs)] w' fun e w'' => e = .returned (.int .i64 (((sval bs).natAbs % 65536 : Nat) : Int)) ∧ Below w'.heap.size w' w'' := fun w' => by
    rw [sval_abs]; exact rrem_b bs hI hB hl w'
  clear hp
  by_cases h48 : bs = [48]
  focus
    rw [if_pos ⟨rfl, .inl h48⟩]
    rw [decide_eq_true h48] at hq hq2
    have hv : ¬ 536870911 < (sval bs).natAbs := by rw [h48]; decide
    rw [if_neg hv]
    simp only [hv, if_false, not_false_eq_true, decide_true] at cV
    generalize sval bs = v at *
    generalize strOfNums bs = T at *
    have hq3 : (T.toList != [48]) = false := hq2
    clear hI hB h0 hl h48 hv hx cR hq2
    go_enter Tryd.func21, Tryd.ntmps21
    go_wp2_with (first | (go_at_call 37; refine Calls.mono (gw_at (cI _)) ?_; rintro e w1 ⟨rfl, q, rfl⟩) | (go_at_call 38; refine Calls.mono (gw_at (cV _)) ?_; rintro e w1 ⟨rfl, q, rfl⟩))
    exact bodyPost_ret (v := .tuple #[.int .i64 v, .int .i64 0]) (by simp [results, Tryd.results21, go_sem]) rfl ⟨rfl, (by repeat (first | with_reducible exact Below.refl _ _ | with_reducible assumption | refine bgw ?_ (by first | (simp; done) | (simp; omega) | omega) _ | refine Below.setCell ?_ (by first | exact Nat.le_of_not_lt (by assumption) | (simp; done) | (simp; omega) | omega) _ | refine Below.alloc ?_ (by first | (simp; done) | (simp; omega) | omega) _ | refine Below.drew ?_))⟩
  have hq3 : ((strOfNums bs).toList != [48]) = true := by rw [hq2, decide_eq_false h48]; rfl
  rw [decide_eq_false h48] at hq
  clear hq2
  obtain ⟨Z, hZ⟩ : ∃ Z : Int, (((sval bs).natAbs % 65536 : Nat) : Int) = Z := ⟨_, rfl⟩
  rw [hZ] at cR
  by_cases hz : (sval bs).natAbs % 65536 = 0
  focus
    rw [if_neg (by rintro ⟨_, h | h⟩; exact h48 h; exact h hz)]
    have hzb : (Z == 0) = true := by rw [beq_iff_eq]; omega
    generalize strOfNums bs = T at *
    clear hI hB h0 hl h48 hx cV hZ hz
    go_enter Tryd.func21, Tryd.ntmps21
    go_wp2_with (first | (go_at_call 37; refine Calls.mono (gw_at (cI _)) ?_; rintro e w1 ⟨rfl, q, rfl⟩) | (go_at_call 39; refine Calls.mono (gw_at (cR _)) ?_; rintro e w1 ⟨rfl, q, rfl⟩))
    exact bodyPost_ret (v := .tuple #[.int .i64 0, .int .i64 3]) (by simp [results, Tryd.results21, go_sem]) rfl ⟨rfl, (by repeat (first | with_reducible exact Below.refl _ _ | with_reducible assumption | refine bgw ?_ (by first | (simp; done) | (simp; omega) | omega) _ | refine Below.setCell ?_ (by first | exact Nat.le_of_not_lt (by assumption) | (simp; done) | (simp; omega) | omega) _ | refine Below.alloc ?_ (by first | (simp; done) | (simp; omega) | omega) _ | refine Below.drew ?_))⟩
  rw [if_pos ⟨rfl, .inr hz⟩]
  have hzb : (Z == 0) = false := by rw [beq_eq_false_iff_ne]; omega
  clear hZ hz
  generalize sval bs = v at *
  generalize strOfNums bs = T at *
  by_cases hv : 536870911 < v.natAbs
  focus
    rw [if_pos hv]
    simp only [hv, if_true, not_true_eq_false, decide_false] at cV
    clear hv hI hB h0 hl h48 hx
    go_enter Tryd.func21, Tryd.ntmps21
    go_wp2_with (first | (go_at_call 37; refine Calls.mono (gw_at (cI _)) ?_; rintro e w1 ⟨rfl, q, rfl⟩) | (go_at_call 38; refine Calls.mono (gw_at (cV _)) ?_; rintro e w1 ⟨rfl, q, rfl⟩) | (go_at_call 39; refine Calls.mono (gw_at (cR _)) ?_; rintro e w1 ⟨rfl, q, rfl⟩))
    exact bodyPost_ret (v := .tuple #[.int .i64 0, .int .i64 6]) (by simp [results, Tryd.results21, go_sem]) rfl ⟨rfl, (by repeat (first | with_reducible exact Below.refl _ _ | with_reducible assumption | refine bgw ?_ (by first | (simp; done) | (simp; omega) | omega) _ | refine Below.setCell ?_ (by first | exact Nat.le_of_not_lt (by assumption) | (simp; done) | (simp; omega) | omega) _ | refine Below.alloc ?_ (by first | (simp; done) | (simp; omega) | omega) _ | refine Below.drew ?_))⟩
  rw [if_neg hv]
  simp only [hv, if_false, not_false_eq_true, decide_true] at cV
  clear hv hI hB h0 hl h48 hx
  go_enter Tryd.func21, Tryd.ntmps21
  go_wp2_with (first | (go_at_call 37; refine Calls.mono (gw_at (cI _)) ?_; rintro e w1 ⟨rfl, q, rfl⟩) | (go_at_call 38; refine Calls.mono (gw_at (cV _)) ?_; rintro e w1 ⟨rfl, q, rfl⟩) | (go_at_call 39; refine Calls.mono (gw_at (cR _)) ?_; rintro e w1 ⟨rfl, q, rfl⟩))
  exact bodyPost_ret (v := .tuple #[.int .i64 v, .int .i64 0]) (by simp [results, Tryd.results21, go_sem]) rfl ⟨rfl, (by repeat (first | with_reducible exact Below.refl _ _ | with_reducible assumption | refine bgw ?_ (by first | (simp; done) | (simp; omega) | omega) _ | refine Below.setCell ?_ (by first | exact Nat.le_of_not_lt (by assumption) | (simp; done) | (simp; omega) | omega) _ | refine Below.alloc ?_ (by first | (simp; done) | (simp; omega) | omega) _ | refine Below.drew ?_))⟩

end Go.Proofs.YtdlnidefjdjocaaDoor
