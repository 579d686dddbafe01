/- Contracts of the reference of chapter 9, continued: opening. -/
import Derived.Test.YtmdnbmekbhljkaaFixKT
set_option linter.unusedVariables false
namespace Go.Proofs.Ytmdnbmekbhljkaa
open Go.RowKit Ck

set_option maxHeartbeats 1000000 in
theorem ropn_b (A : Option Addr) (cap : Nat) (bs : List Int) (L : Nat) (hL : bs.length = L) (hB : isB bs) (hl : L ≤ 1073741824) (hlc : L ≤ cap) (hA : A = none → cap = 0) (w : World) (hp : Byts w A bs) : Calls Try.prog 20 #[.slice A L cap] w fun e w' => (∃ v, e = .returned (.tuple #[v, .int .i64 (opn bs).2]) ∧ w'.ownsRow w.heap.size 5 1 v (opn bs).1.length (yv (opn bs).1)) ∧ Below w.heap.size w w' := by
  obtain ⟨i0, hi, hz0, hz1, hz2⟩ := info_parts info_u8
  by_cases h4 : L < 4
  focus
    rw [opn_short (by omega)]
    have h4' : (L : Int) < 4 := by omega
    go_enter Try.func20, Try.ntmps20
    go_wp2_with fail
    exact bodyPost_ret (v := .tuple #[.slice none 0 0, .int .i64 4]) (by simp [results, Try.results20, go_sem]) rfl ⟨⟨_, rfl, owns_nil _ _ _⟩, (by repeat (first | with_reducible exact Below.refl _ _ | with_reducible assumption | refine bgw ?_ (by first | (simp; done) | (simp; omega) | omega) _ | refine Below.setCell ?_ (by first | exact Nat.le_of_not_lt (by assumption) | (simp; done) | (simp; omega) | omega) _ | refine Below.alloc ?_ (by first | (simp; done) | (simp; omega) | omega) _ | refine Below.drew ?_))⟩
  obtain ⟨n, rfl⟩ : ∃ n, L = n + 4 := ⟨L - 4, by omega⟩
  have h4' : ¬ (n : Int) + 4 < 4 := by omega
  have htl : (bs.take n).length = n := by rw [List.length_take]; omega
  have ht : Byts w A (bs.take n) := Byts.take n hp
  have htB := isB_take hB n
  have ho : opn bs = if sea (bs.take n) = bs then (bs.take n, 0) else ([], 22) := by
    unfold opn
    rw [if_neg (by omega), show bs.length - 4 = n from by omega]
  have hsl : (sea (bs.take n)).length = n + 4 := by rw [sea_length, htl]
  have cS : ∀ w', Below w.heap.size w w' → Calls Try.prog 19 #[.slice A n cap] w' fun e w'' => (∃ v, e = .returned v ∧ w''.ownsRow w'.heap.size 5 1 v (n + 4) (yv (sea (bs.take n)))) ∧ Below w'.heap.size w' w'' := fun w' hb => rsea_b A cap (bs.take n) n htl htB (by omega) hA w' (Cs.to ht hb)
  have cE : ∀ (A' : Option Addr) (cap' : Nat) w', Byts w' A' (sea (bs.take n)) → Byts w' A bs → Calls Try.prog 18 #[.slice A' (n + 4) cap', .slice A (n + 4) cap] w' fun e w'' => e = .returned (.bool (decide (sea (bs.take n) = bs))) ∧ Below w'.heap.size w' w'' := fun A' cap' w' h1 h2 => req9_b A' A cap' cap _ _ (n + 4) (n + 4) hsl hL (sea_isB htB) hB w' h1 h2
  rw [ho]
  clear ho hL
  have hcap : (n : Int) ≤ (cap : Int) := by omega
  have hn0 : (0 : Int) ≤ (n : Int) := by omega
  by_cases hq : sea (bs.take n) = bs
  focus
    rw [if_pos hq]
    rw [decide_eq_true hq] at cE
    generalize sea (bs.take n) = S at *
    generalize bs.take n = cs at *
    clear hq
    go_enter Try.func20, Try.ntmps20
    go_wp2_with (first
      | (go_at_call 19; refine Calls.mono (gw_ex (cS _ (by repeat (first | with_reducible exact Below.refl _ _ | with_reducible assumption | refine bgw ?_ (by first | (simp; done) | (simp; omega) | omega) _ | refine Below.setCell ?_ (by first | exact Nat.le_of_not_lt (by assumption) | (simp; done) | (simp; omega) | omega) _ | refine Below.alloc ?_ (by first | (simp; done) | (simp; omega) | omega) _ | refine Below.drew ?_)))) ?_; rintro e w1 ⟨⟨v', rfl, hown⟩, q, rfl⟩; obtain ⟨A', cap', rfl, hle, hmx, hnil, hcs⟩ := owns_sl hown)
      | (go_at_call 18; refine Calls.mono (gw_at (cE _ _ _ (Cs.to hcs (by repeat (first | with_reducible exact Below.refl _ _ | with_reducible assumption | refine bgw ?_ (by first | (simp; done) | (simp; omega) | omega) _ | refine Below.setCell ?_ (by first | exact Nat.le_of_not_lt (by assumption) | (simp; done) | (simp; omega) | omega) _ | refine Below.alloc ?_ (by first | (simp; done) | (simp; omega) | omega) _ | refine Below.drew ?_))) (Cs.to hp (by repeat (first | with_reducible exact Below.refl _ _ | with_reducible assumption | refine bgw ?_ (by first | (simp; done) | (simp; omega) | omega) _ | refine Below.setCell ?_ (by first | exact Nat.le_of_not_lt (by assumption) | (simp; done) | (simp; omega) | omega) _ | refine Below.alloc ?_ (by first | (simp; done) | (simp; omega) | omega) _ | refine Below.drew ?_))))) ?_; rintro e w1 ⟨rfl, q, rfl⟩)
      | (at_builtin; refine wpList_appN rfl (.tmp 18) (.tmp 21) 22 rfl (w.heap.size) 5 i0 (.int .u8 0) 1 Try.underlying22 hi hz0 hz1 hz2 rfl _ _ _ rfl (owns_lit (xs := []) (by repeat (first | with_reducible exact blk_new _ _ _ | ((with_reducible refine blk_at ?_); (simp; done)) | with_reducible apply blk_alloc | with_reducible apply blk_gw | with_reducible apply blk_drew)) rfl (by first | (simp; done) | (simp; omega) | omega) (by decide)) _ _ _ (yv cs) rfl hA (by first | (simp; done) | (simp; omega)) (Cs.to ht (by repeat (first | with_reducible exact Below.refl _ _ | with_reducible assumption | refine bgw ?_ (by first | (simp; done) | (simp; omega) | omega) _ | refine Below.setCell ?_ (by first | exact Nat.le_of_not_lt (by assumption) | (simp; done) | (simp; omega) | omega) _ | refine Below.alloc ?_ (by first | (simp; done) | (simp; omega) | omega) _ | refine Below.drew ?_))) (fun u hu => by first | exact yv_one _ u hu | (simp at hu; subst hu; rfl)) (by first | (unfold maxLen; omega) | (unfold maxLen; simp; omega)) (by first | omega | (simp; omega)) (by first | (simp; done) | (simp; omega) | omega) ?_; intro v3 w3 hown3 hb3; have hs3 := hb3.size; try simp at hs3))
    rw [List.nil_append, Nat.zero_add] at hown3
    subst htl
    exact bodyPost_ret (v := .tuple #[v3, .int .i64 0]) (by simp [results, Try.results20, go_sem]) rfl ⟨⟨_, rfl, hown3⟩, Below.trans (by repeat (first | with_reducible exact Below.refl _ _ | with_reducible assumption | refine bgw ?_ (by first | (simp; done) | (simp; omega) | omega) _ | refine Below.setCell ?_ (by first | exact Nat.le_of_not_lt (by assumption) | (simp; done) | (simp; omega) | omega) _ | refine Below.alloc ?_ (by first | (simp; done) | (simp; omega) | omega) _ | refine Below.drew ?_)) hb3⟩
  rw [if_neg hq]
  rw [decide_eq_false hq] at cE
  generalize sea (bs.take n) = S at *
  generalize bs.take n = cs at *
  clear hq
  go_enter Try.func20, Try.ntmps20
  go_wp2_with (first
    | (go_at_call 19; refine Calls.mono (gw_ex (cS _ (by repeat (first | with_reducible exact Below.refl _ _ | with_reducible assumption | refine bgw ?_ (by first | (simp; done) | (simp; omega) | omega) _ | refine Below.setCell ?_ (by first | exact Nat.le_of_not_lt (by assumption) | (simp; done) | (simp; omega) | omega) _ | refine Below.alloc ?_ (by first | (simp; done) | (simp; omega) | omega) _ | refine Below.drew ?_)))) ?_; rintro e w1 ⟨⟨v', rfl, hown⟩, q, rfl⟩; obtain ⟨A', cap', rfl, hle, hmx, hnil, hcs⟩ := owns_sl hown)
    | (go_at_call 18; refine Calls.mono (gw_at (cE _ _ _ (Cs.to hcs (by repeat (first | with_reducible exact Below.refl _ _ | with_reducible assumption | refine bgw ?_ (by first | (simp; done) | (simp; omega) | omega) _ | refine Below.setCell ?_ (by first | exact Nat.le_of_not_lt (by assumption) | (simp; done) | (simp; omega) | omega) _ | refine Below.alloc ?_ (by first | (simp; done) | (simp; omega) | omega) _ | refine Below.drew ?_))) (Cs.to hp (by repeat (first | with_reducible exact Below.refl _ _ | with_reducible assumption | refine bgw ?_ (by first | (simp; done) | (simp; omega) | omega) _ | refine Below.setCell ?_ (by first | exact Nat.le_of_not_lt (by assumption) | (simp; done) | (simp; omega) | omega) _ | refine Below.alloc ?_ (by first | (simp; done) | (simp; omega) | omega) _ | refine Below.drew ?_))))) ?_; rintro e w1 ⟨rfl, q, rfl⟩))
  exact bodyPost_ret (v := .tuple #[.slice none 0 0, .int .i64 22]) (by simp [results, Try.results20, go_sem]) rfl ⟨⟨_, rfl, owns_nil _ _ _⟩, (by repeat (first | with_reducible exact Below.refl _ _ | with_reducible assumption | refine bgw ?_ (by first | (simp; done) | (simp; omega) | omega) _ | refine Below.setCell ?_ (by first | exact Nat.le_of_not_lt (by assumption) | (simp; done) | (simp; omega) | omega) _ | refine Below.alloc ?_ (by first | (simp; done) | (simp; omega) | omega) _ | refine Below.drew ?_))⟩

end Go.Proofs.Ytmdnbmekbhljkaa
