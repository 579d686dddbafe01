/- Contracts of the reference of chapter 7, continued: Bools. -/
import Derived.Test.YtgpcldhgkaddeaaFixCR
set_option linter.unusedVariables false
namespace Go.Proofs.Ytgpcldhgkaddeaa
open Go.RowKit By

theorem rrb_b (A : Option Addr) (cap : Nat) (bs : List Int) (p : Int) (hB : isB bs) (hl : bs.length ≤ 1073741824) (w : World) (hp : Byts w A bs) : Calls Try.prog 25 #[.slice A bs.length cap, .int .i64 p] w fun e w' => e = .returned (.tuple #[.bool (rdBool bs p).1, .int .i64 (rdBool bs p).2.1, .int .i64 (rdBool bs p).2.2]) ∧ Below w.heap.size w w' := by
  by_cases hp0 : p < 0
  focus
    rw [show rdBool bs p = (false, 0, 2) from if_pos (.inl hp0)]
    go_enter Try.func25, Try.ntmps25
    go_wp2_with fail
    exact bodyPost_ret (v := .tuple #[.bool false, .int .i64 0, .int .i64 2]) (by simp [results, Try.results25, go_sem]) rfl ⟨rfl, (by repeat (first | with_reducible exact Below.refl _ _ | with_reducible assumption | refine bgw ?_ (by first | (simp; done) | (simp; omega) | omega) _ | refine Below.setCell ?_ (by first | exact Nat.le_of_not_lt (by assumption) | (simp; done) | (simp; omega) | omega) _ | refine Below.alloc ?_ (by first | (simp; done) | (simp; omega) | omega) _ | refine Below.drew ?_))⟩
  by_cases hp1 : (bs.length : Int) < p
  focus
    rw [show rdBool bs p = (false, 0, 2) from if_pos (.inr hp1)]
    go_enter Try.func25, Try.ntmps25
    go_wp2_with fail
    exact bodyPost_ret (v := .tuple #[.bool false, .int .i64 0, .int .i64 2]) (by simp [results, Try.results25, go_sem]) rfl ⟨rfl, (by repeat (first | with_reducible exact Below.refl _ _ | with_reducible assumption | refine bgw ?_ (by first | (simp; done) | (simp; omega) | omega) _ | refine Below.setCell ?_ (by first | exact Nat.le_of_not_lt (by assumption) | (simp; done) | (simp; omega) | omega) _ | refine Below.alloc ?_ (by first | (simp; done) | (simp; omega) | omega) _ | refine Below.drew ?_))⟩
  by_cases hp2 : p = bs.length
  focus
    subst hp2
    rw [show rdBool bs bs.length = (false, 0, 4) from by unfold rdBool; rw [if_neg (by omega), if_pos rfl]]
    go_enter Try.func25, Try.ntmps25
    go_wp2_with fail
    exact bodyPost_ret (v := .tuple #[.bool false, .int .i64 0, .int .i64 4]) (by simp [results, Try.results25, go_sem]) rfl ⟨rfl, (by repeat (first | with_reducible exact Below.refl _ _ | with_reducible assumption | refine bgw ?_ (by first | (simp; done) | (simp; omega) | omega) _ | refine Below.setCell ?_ (by first | exact Nat.le_of_not_lt (by assumption) | (simp; done) | (simp; omega) | omega) _ | refine Below.alloc ?_ (by first | (simp; done) | (simp; omega) | omega) _ | refine Below.drew ?_))⟩
  obtain ⟨q, rfl⟩ : ∃ q : Nat, p = q := ⟨p.toNat, by omega⟩
  have hq : q < bs.length := by omega
  have q0 : (0 : Int) ≤ (q : Int) := by omega
  have q1 : (q : Int) < (bs.length : Int) := by omega
  have q2 : ((q : Int) == (bs.length : Int)) = false := by rw [beq_eq_false_iff_ne]; omega
  obtain ⟨b, off, rfl, hce⟩ := Byts.open hp (by omega)
  have d1 := hce q hq
  obtain ⟨h0, h1⟩ := hB _ (List.getElem_mem hq)
  have hR : rdBool bs q = if 1 < bs[q] then (false, 0, 3) else (bs[q] == 1, (q : Int) + 1, 0) := by
    unfold rdBool
    rw [if_neg (by omega), if_neg (by omega)]
    simp only [Int.toNat_natCast, List.getD_eq_getElem?_getD, List.getElem?_eq_getElem hq, Option.getD_some]
  rw [hR]
  clear hR
  obtain ⟨h, hv⟩ : ∃ h, bs[q] = h := ⟨_, rfl⟩
  rw [hv] at d1 h0 h1 ⊢
  clear hv hce hp hB
  by_cases hh : 1 < h
  focus
    rw [if_pos hh]
    go_enter Try.func25, Try.ntmps25
    go_wp2_with fail
    exact bodyPost_ret (v := .tuple #[.bool false, .int .i64 0, .int .i64 3]) (by simp [results, Try.results25, go_sem]) rfl ⟨rfl, (by repeat (first | with_reducible exact Below.refl _ _ | with_reducible assumption | refine bgw ?_ (by first | (simp; done) | (simp; omega) | omega) _ | refine Below.setCell ?_ (by first | exact Nat.le_of_not_lt (by assumption) | (simp; done) | (simp; omega) | omega) _ | refine Below.alloc ?_ (by first | (simp; done) | (simp; omega) | omega) _ | refine Below.drew ?_))⟩
  rw [if_neg hh]
  go_enter Try.func25, Try.ntmps25
  go_wp2_with fail
  exact bodyPost_ret (v := .tuple #[.bool (h == 1), .int .i64 ((q : Int) + 1), .int .i64 0]) (by simp [results, Try.results25, go_sem]) rfl ⟨rfl, (by repeat (first | with_reducible exact Below.refl _ _ | with_reducible assumption | refine bgw ?_ (by first | (simp; done) | (simp; omega) | omega) _ | refine Below.setCell ?_ (by first | exact Nat.le_of_not_lt (by assumption) | (simp; done) | (simp; omega) | omega) _ | refine Below.alloc ?_ (by first | (simp; done) | (simp; omega) | omega) _ | refine Below.drew ?_))⟩

end Go.Proofs.Ytgpcldhgkaddeaa
