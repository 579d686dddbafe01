/- Contracts of the reference of chapter 8, continued: ParseInt. -/
import Derived.Test.YtdlnidefjdjocaaDoorFixFV
set_option linter.unusedVariables false
namespace Go.Proofs.YtdlnidefjdjocaaDoor
open Go.RowKit Fm

theorem rprs_b (bs : List Int) (hB : isB bs) (hl : bs.length ≤ 1000000) (w : World) : Calls Tryd.prog 20 #[.string (strOfNums bs)] w fun e w' => e = .returned (.tuple #[.int .i64 (prs 4611686018427387904 bs).1, .int .i64 (prs 4611686018427387904 bs).2]) ∧ Below w.heap.size w w' := by
  have cI : ∀ w', Calls Tryd.prog 37 #[.string (strOfNums bs)] w' fun e w'' => e = .returned (.bool (isInt bs)) ∧ Below w'.heap.size w' w'' := fun w' => risint_b bs hB hl w'
  unfold prs
  cases hI : isInt bs
  focus
    rw [hI] at cI
    rw [if_neg (by simp)]
    go_enter Tryd.func20, Tryd.ntmps20
    go_wp2_with (go_at_call 37; refine Calls.mono (gw_at (cI _)) ?_; rintro e w1 ⟨rfl, q, rfl⟩)
    exact bodyPost_ret (v := .tuple #[.int .i64 0, .int .i64 3]) (by simp [results, Tryd.results20, go_sem]) rfl ⟨rfl, (by repeat (first | with_reducible exact Below.refl _ _ | with_reducible assumption | refine bgw ?_ (by first | (simp; done) | (simp; omega) | omega) _ | refine Below.setCell ?_ (by first | exact Nat.le_of_not_lt (by assumption) | (simp; done) | (simp; omega) | omega) _ | refine Below.alloc ?_ (by first | (simp; done) | (simp; omega) | omega) _ | refine Below.drew ?_))⟩
  rw [hI] at cI
  rw [if_pos rfl]
  have cV : ∀ w', Calls Tryd.prog 38 #[.string (strOfNums bs), .int .i64 4611686018427387904] w' fun e w'' => e = .returned (.tuple #[.int .i64 (if 4611686018427387904 < (sval bs).natAbs then 0 else sval bs), .bool (decide (¬ 4611686018427387904 < (sval bs).natAbs))]) ∧ Below w'.heap.size w' w'' := fun w' => rval_b bs 4611686018427387904 hI hB hl (by omega) (by omega) w'
  generalize sval bs = v at *
  generalize strOfNums bs = T at *
  by_cases hv : 4611686018427387904 < v.natAbs
  focus
    rw [if_pos hv]
    simp only [hv, if_true, not_true_eq_false, decide_false] at cV
    clear hv hI
    go_enter Tryd.func20, Tryd.ntmps20
    go_wp2_with (first | (go_at_call 37; refine Calls.mono (gw_at (cI _)) ?_; rintro e w1 ⟨rfl, q, rfl⟩) | (go_at_call 38; refine Calls.mono (gw_at (cV _)) ?_; rintro e w1 ⟨rfl, q, rfl⟩))
    exact bodyPost_ret (v := .tuple #[.int .i64 0, .int .i64 6]) (by simp [results, Tryd.results20, go_sem]) rfl ⟨rfl, (by repeat (first | with_reducible exact Below.refl _ _ | with_reducible assumption | refine bgw ?_ (by first | (simp; done) | (simp; omega) | omega) _ | refine Below.setCell ?_ (by first | exact Nat.le_of_not_lt (by assumption) | (simp; done) | (simp; omega) | omega) _ | refine Below.alloc ?_ (by first | (simp; done) | (simp; omega) | omega) _ | refine Below.drew ?_))⟩
  rw [if_neg hv]
  simp only [hv, if_false, not_false_eq_true, decide_true] at cV
  clear hv hI
  go_enter Tryd.func20, Tryd.ntmps20
  go_wp2_with (first | (go_at_call 37; refine Calls.mono (gw_at (cI _)) ?_; rintro e w1 ⟨rfl, q, rfl⟩) | (go_at_call 38; refine Calls.mono (gw_at (cV _)) ?_; rintro e w1 ⟨rfl, q, rfl⟩))
  exact bodyPost_ret (v := .tuple #[.int .i64 v, .int .i64 0]) (by simp [results, Tryd.results20, go_sem]) rfl ⟨rfl, (by repeat (first | with_reducible exact Below.refl _ _ | with_reducible assumption | refine bgw ?_ (by first | (simp; done) | (simp; omega) | omega) _ | refine Below.setCell ?_ (by first | exact Nat.le_of_not_lt (by assumption) | (simp; done) | (simp; omega) | omega) _ | refine Below.alloc ?_ (by first | (simp; done) | (simp; omega) | omega) _ | refine Below.drew ?_))⟩

end Go.Proofs.YtdlnidefjdjocaaDoor
