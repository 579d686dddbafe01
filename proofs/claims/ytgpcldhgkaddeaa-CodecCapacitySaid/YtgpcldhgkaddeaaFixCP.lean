/- Contracts of package codec that read: bools, lengths, strings, vectors, slices. -/
import Derived.Test.YtgpcldhgkaddeaaFixCD
import Derived.Test.YtgpcldhgkaddeaaFixCW
import Derived.Test.YtgpcldhgkaddeaaByM
set_option linter.unusedVariables false
namespace Go.Proofs.Ytgpcldhgkaddeaa
open Go.RowKit By

theorem xrb_b (A : Option Addr) (cap : Nat) (bs : List Int) (p : Int) (hB : isB bs) (hl : bs.length ≤ 1000000000) (hk : bs.length ≤ cap) (w : World) (hp : Byts w A bs) : Calls Try.prog 16 #[.slice A bs.length cap, .int .i64 p] w fun e w' => e = .returned (.tuple #[.bool (rdBool bs p).1, .int .i64 (rdBool bs p).2.1, .int .i64 (rdBool bs p).2.2]) ∧ Below w.heap.size w w' := by
  have cR : ∀ w', Below w.heap.size w w' → Calls Try.prog 31 #[.slice A bs.length cap, .int .i64 p] w' fun e w'' => e = .returned (.tuple #[.int .u8 (rdByte bs p).1, .int .i64 (rdByte bs p).2.1, .int .i64 (rdByte bs p).2.2]) ∧ Below w'.heap.size w' w'' := fun w' hb => xby_b A cap bs p hl w' (Cs.to hp hb)
  by_cases hin : ¬ (0 ≤ p ∧ p < bs.length)
  focus
    obtain ⟨E, hE, e0, e1⟩ : ∃ E, E ≠ 0 ∧ rdByte bs p = (0, 0, E) ∧ rdBool bs p = (false, 0, E) := by
      unfold rdByte rdBool
      by_cases c1 : p < 0 ∨ (bs.length : Int) < p
      · exact ⟨2, by decide, if_pos c1, if_pos c1⟩
      · exact ⟨4, by decide, by rw [if_neg c1, if_pos (by omega)], by rw [if_neg c1, if_pos (by omega)]⟩
    rw [e1]
    rw [e0] at cR
    have hEb : (E != 0) = true := by rw [bne_iff_ne]; exact hE
    clear e0 e1 hE hin
    go_enter Try.func16, Try.ntmps16
    go_wp2_with (go_at_call 31; refine Calls.mono (gw_at (cR _ (by repeat (first | with_reducible exact Below.refl _ _ | with_reducible assumption | refine bgw ?_ (by first | (simp; done) | (simp; omega) | omega) _ | refine Below.setCell ?_ (by first | exact Nat.le_of_not_lt (by assumption) | (simp; done) | (simp; omega) | omega) _ | refine Below.alloc ?_ (by first | (simp; done) | (simp; omega) | omega) _ | refine Below.drew ?_)))) ?_; rintro e w1 ⟨rfl, q, rfl⟩)
    exact bodyPost_ret (v := .tuple #[.bool false, .int .i64 0, .int .i64 E]) (by simp [results, Try.results16, go_sem]) rfl ⟨rfl, (by repeat (first | with_reducible exact Below.refl _ _ | with_reducible assumption | refine bgw ?_ (by first | (simp; done) | (simp; omega) | omega) _ | refine Below.setCell ?_ (by first | exact Nat.le_of_not_lt (by assumption) | (simp; done) | (simp; omega) | omega) _ | refine Below.alloc ?_ (by first | (simp; done) | (simp; omega) | omega) _ | refine Below.drew ?_))⟩
  obtain ⟨hi0, hi1⟩ : 0 ≤ p ∧ p < bs.length := Classical.not_not.1 hin
  clear hin
  obtain ⟨q, rfl⟩ : ∃ q : Nat, p = q := ⟨p.toNat, by omega⟩
  have hq : q < bs.length := by omega
  obtain ⟨h0, h1⟩ := hB _ (List.getElem_mem hq)
  rw [show rdByte bs q = (bs[q], (q : Int) + 1, 0) from by unfold rdByte; rw [if_neg (by omega), if_neg (by omega)]; simp [hq]] at cR
  rw [show rdBool bs q = if 1 < bs[q] then (false, 0, 3) else (bs[q] == 1, (q : Int) + 1, 0) from by unfold rdBool; rw [if_neg (by omega), if_neg (by omega)]; simp [hq]]
  dsimp only at cR
  generalize bs[q] = h at *
  by_cases hh : 1 < h
  focus
    rw [if_pos hh]
    go_enter Try.func16, Try.ntmps16
    go_wp2_with (go_at_call 31; refine Calls.mono (gw_at (cR _ (by repeat (first | with_reducible exact Below.refl _ _ | with_reducible assumption | refine bgw ?_ (by first | (simp; done) | (simp; omega) | omega) _ | refine Below.setCell ?_ (by first | exact Nat.le_of_not_lt (by assumption) | (simp; done) | (simp; omega) | omega) _ | refine Below.alloc ?_ (by first | (simp; done) | (simp; omega) | omega) _ | refine Below.drew ?_)))) ?_; rintro e w1 ⟨rfl, g1, rfl⟩)
    exact bodyPost_ret (v := .tuple #[.bool false, .int .i64 0, .int .i64 3]) (by simp [results, Try.results16, go_sem]) rfl ⟨rfl, (by repeat (first | with_reducible exact Below.refl _ _ | with_reducible assumption | refine bgw ?_ (by first | (simp; done) | (simp; omega) | omega) _ | refine Below.setCell ?_ (by first | exact Nat.le_of_not_lt (by assumption) | (simp; done) | (simp; omega) | omega) _ | refine Below.alloc ?_ (by first | (simp; done) | (simp; omega) | omega) _ | refine Below.drew ?_))⟩
  rw [if_neg hh]
  go_enter Try.func16, Try.ntmps16
  go_wp2_with (go_at_call 31; refine Calls.mono (gw_at (cR _ (by repeat (first | with_reducible exact Below.refl _ _ | with_reducible assumption | refine bgw ?_ (by first | (simp; done) | (simp; omega) | omega) _ | refine Below.setCell ?_ (by first | exact Nat.le_of_not_lt (by assumption) | (simp; done) | (simp; omega) | omega) _ | refine Below.alloc ?_ (by first | (simp; done) | (simp; omega) | omega) _ | refine Below.drew ?_)))) ?_; rintro e w1 ⟨rfl, g1, rfl⟩)
  exact bodyPost_ret (v := .tuple #[.bool (h == 1), .int .i64 ((q : Int) + 1), .int .i64 0]) (by simp [results, Try.results16, go_sem]) rfl ⟨rfl, (by repeat (first | with_reducible exact Below.refl _ _ | with_reducible assumption | refine bgw ?_ (by first | (simp; done) | (simp; omega) | omega) _ | refine Below.setCell ?_ (by first | exact Nat.le_of_not_lt (by assumption) | (simp; done) | (simp; omega) | omega) _ | refine Below.alloc ?_ (by first | (simp; done) | (simp; omega) | omega) _ | refine Below.drew ?_))⟩

theorem xlen_b (A : Option Addr) (cap : Nat) (bs : List Int) (p most : Int) (hB : isB bs) (hl : bs.length ≤ 1000000000) (hk : bs.length ≤ cap) (w : World) (hp : Byts w A bs) : Calls Try.prog 33 #[.slice A bs.length cap, .int .i64 p, .int .i64 most] w fun e w' => e = .returned (.tuple #[.int .i64 (rdLen bs p most).1, .int .i64 (rdLen bs p most).2.1, .int .i64 (rdLen bs p most).2.2]) ∧ Below w.heap.size w w' := by
  have cI : ∀ w', Below w.heap.size w w' → Calls Try.prog 15 #[.slice A bs.length cap, .int .i64 p] w' fun e w'' => e = .returned (.tuple #[.int .i64 (rdInt bs p).1, .int .i64 (rdInt bs p).2.1, .int .i64 (rdInt bs p).2.2]) ∧ Below w'.heap.size w' w'' := fun w' hb => xri_b A cap bs p hB hl hk w' (Cs.to hp hb)
  have hR : rdLen bs p most = if (rdInt bs p).2.2 ≠ 0 then (0, 0, (rdInt bs p).2.2) else if (rdInt bs p).1 < 0 then (0, 0, 3) else if max most 0 < (rdInt bs p).1 then (0, 0, 5) else ((rdInt bs p).1, (rdInt bs p).2.1, 0) := rfl
  rw [hR]
  clear hR
  generalize rdInt bs p = r at *
  obtain ⟨n, to, e⟩ := r
  dsimp only at cI ⊢
  by_cases he : e = 0
  rotate_left
  focus
    rw [if_pos he]
    have heb : (e == 0) = false := by rw [beq_eq_false_iff_ne]; exact he
    clear he
    go_enter Try.func33, Try.ntmps33
    go_wp2_with (go_at_call 15; refine Calls.mono (gw_at (cI _ (by repeat (first | with_reducible exact Below.refl _ _ | with_reducible assumption | refine bgw ?_ (by first | (simp; done) | (simp; omega) | omega) _ | refine Below.setCell ?_ (by first | exact Nat.le_of_not_lt (by assumption) | (simp; done) | (simp; omega) | omega) _ | refine Below.alloc ?_ (by first | (simp; done) | (simp; omega) | omega) _ | refine Below.drew ?_)))) ?_; rintro e w1 ⟨rfl, q, rfl⟩)
    exact bodyPost_ret (v := .tuple #[.int .i64 0, .int .i64 0, .int .i64 e]) (by simp [results, Try.results33, go_sem]) rfl ⟨rfl, (by repeat (first | with_reducible exact Below.refl _ _ | with_reducible assumption | refine bgw ?_ (by first | (simp; done) | (simp; omega) | omega) _ | refine Below.setCell ?_ (by first | exact Nat.le_of_not_lt (by assumption) | (simp; done) | (simp; omega) | omega) _ | refine Below.alloc ?_ (by first | (simp; done) | (simp; omega) | omega) _ | refine Below.drew ?_))⟩
  subst he
  rw [if_neg (by simp)]
  by_cases hn : n < 0
  focus
    rw [if_pos hn]
    go_enter Try.func33, Try.ntmps33
    go_wp2_with (go_at_call 15; refine Calls.mono (gw_at (cI _ (by repeat (first | with_reducible exact Below.refl _ _ | with_reducible assumption | refine bgw ?_ (by first | (simp; done) | (simp; omega) | omega) _ | refine Below.setCell ?_ (by first | exact Nat.le_of_not_lt (by assumption) | (simp; done) | (simp; omega) | omega) _ | refine Below.alloc ?_ (by first | (simp; done) | (simp; omega) | omega) _ | refine Below.drew ?_)))) ?_; rintro e w1 ⟨rfl, q, rfl⟩)
    exact bodyPost_ret (v := .tuple #[.int .i64 0, .int .i64 0, .int .i64 3]) (by simp [results, Try.results33, go_sem]) rfl ⟨rfl, (by repeat (first | with_reducible exact Below.refl _ _ | with_reducible assumption | refine bgw ?_ (by first | (simp; done) | (simp; omega) | omega) _ | refine Below.setCell ?_ (by first | exact Nat.le_of_not_lt (by assumption) | (simp; done) | (simp; omega) | omega) _ | refine Below.alloc ?_ (by first | (simp; done) | (simp; omega) | omega) _ | refine Below.drew ?_))⟩
  rw [if_neg hn]
  by_cases hz : most < 0 <;> by_cases hm : max most 0 < n
  focus
    rw [if_pos hm]
    have hmb : 0 < n := by omega
    clear hm
    go_enter Try.func33, Try.ntmps33
    go_wp2_with (go_at_call 15; refine Calls.mono (gw_at (cI _ (by repeat (first | with_reducible exact Below.refl _ _ | with_reducible assumption | refine bgw ?_ (by first | (simp; done) | (simp; omega) | omega) _ | refine Below.setCell ?_ (by first | exact Nat.le_of_not_lt (by assumption) | (simp; done) | (simp; omega) | omega) _ | refine Below.alloc ?_ (by first | (simp; done) | (simp; omega) | omega) _ | refine Below.drew ?_)))) ?_; rintro e w1 ⟨rfl, q, rfl⟩)
    exact bodyPost_ret (v := .tuple #[.int .i64 0, .int .i64 0, .int .i64 5]) (by simp [results, Try.results33, go_sem]) rfl ⟨rfl, (by repeat (first | with_reducible exact Below.refl _ _ | with_reducible assumption | refine bgw ?_ (by first | (simp; done) | (simp; omega) | omega) _ | refine Below.setCell ?_ (by first | exact Nat.le_of_not_lt (by assumption) | (simp; done) | (simp; omega) | omega) _ | refine Below.alloc ?_ (by first | (simp; done) | (simp; omega) | omega) _ | refine Below.drew ?_))⟩
  focus
    rw [if_neg hm]
    have hmb : ¬ 0 < n := by omega
    clear hm
    go_enter Try.func33, Try.ntmps33
    go_wp2_with (go_at_call 15; refine Calls.mono (gw_at (cI _ (by repeat (first | with_reducible exact Below.refl _ _ | with_reducible assumption | refine bgw ?_ (by first | (simp; done) | (simp; omega) | omega) _ | refine Below.setCell ?_ (by first | exact Nat.le_of_not_lt (by assumption) | (simp; done) | (simp; omega) | omega) _ | refine Below.alloc ?_ (by first | (simp; done) | (simp; omega) | omega) _ | refine Below.drew ?_)))) ?_; rintro e w1 ⟨rfl, q, rfl⟩)
    exact bodyPost_ret (v := .tuple #[.int .i64 n, .int .i64 to, .int .i64 0]) (by simp [results, Try.results33, go_sem]) rfl ⟨rfl, (by repeat (first | with_reducible exact Below.refl _ _ | with_reducible assumption | refine bgw ?_ (by first | (simp; done) | (simp; omega) | omega) _ | refine Below.setCell ?_ (by first | exact Nat.le_of_not_lt (by assumption) | (simp; done) | (simp; omega) | omega) _ | refine Below.alloc ?_ (by first | (simp; done) | (simp; omega) | omega) _ | refine Below.drew ?_))⟩
  focus
    rw [if_pos hm]
    have hmb : most < n := by omega
    clear hm
    go_enter Try.func33, Try.ntmps33
    go_wp2_with (go_at_call 15; refine Calls.mono (gw_at (cI _ (by repeat (first | with_reducible exact Below.refl _ _ | with_reducible assumption | refine bgw ?_ (by first | (simp; done) | (simp; omega) | omega) _ | refine Below.setCell ?_ (by first | exact Nat.le_of_not_lt (by assumption) | (simp; done) | (simp; omega) | omega) _ | refine Below.alloc ?_ (by first | (simp; done) | (simp; omega) | omega) _ | refine Below.drew ?_)))) ?_; rintro e w1 ⟨rfl, q, rfl⟩)
    exact bodyPost_ret (v := .tuple #[.int .i64 0, .int .i64 0, .int .i64 5]) (by simp [results, Try.results33, go_sem]) rfl ⟨rfl, (by repeat (first | with_reducible exact Below.refl _ _ | with_reducible assumption | refine bgw ?_ (by first | (simp; done) | (simp; omega) | omega) _ | refine Below.setCell ?_ (by first | exact Nat.le_of_not_lt (by assumption) | (simp; done) | (simp; omega) | omega) _ | refine Below.alloc ?_ (by first | (simp; done) | (simp; omega) | omega) _ | refine Below.drew ?_))⟩
  focus
    rw [if_neg hm]
    have hmb : ¬ most < n := by omega
    clear hm
    go_enter Try.func33, Try.ntmps33
    go_wp2_with (go_at_call 15; refine Calls.mono (gw_at (cI _ (by repeat (first | with_reducible exact Below.refl _ _ | with_reducible assumption | refine bgw ?_ (by first | (simp; done) | (simp; omega) | omega) _ | refine Below.setCell ?_ (by first | exact Nat.le_of_not_lt (by assumption) | (simp; done) | (simp; omega) | omega) _ | refine Below.alloc ?_ (by first | (simp; done) | (simp; omega) | omega) _ | refine Below.drew ?_)))) ?_; rintro e w1 ⟨rfl, q, rfl⟩)
    exact bodyPost_ret (v := .tuple #[.int .i64 n, .int .i64 to, .int .i64 0]) (by simp [results, Try.results33, go_sem]) rfl ⟨rfl, (by repeat (first | with_reducible exact Below.refl _ _ | with_reducible assumption | refine bgw ?_ (by first | (simp; done) | (simp; omega) | omega) _ | refine Below.setCell ?_ (by first | exact Nat.le_of_not_lt (by assumption) | (simp; done) | (simp; omega) | omega) _ | refine Below.alloc ?_ (by first | (simp; done) | (simp; omega) | omega) _ | refine Below.drew ?_))⟩

set_option maxHeartbeats 1000000 in
theorem xrs_b (A : Option Addr) (cap : Nat) (bs : List Int) (p most : Int) (hB : isB bs) (hl : bs.length ≤ 1000000000) (hk : bs.length ≤ cap) (w : World) (hp : Byts w A bs) : Calls Try.prog 21 #[.slice A bs.length cap, .int .i64 p, .int .i64 most] w fun e w' => e = .returned (.tuple #[.string (strOfNums (rdStr bs p most).1), .int .i64 (rdStr bs p most).2.1, .int .i64 (rdStr bs p most).2.2]) ∧ Below w.heap.size w w' := by
  have cL : ∀ w', Below w.heap.size w w' → Calls Try.prog 33 #[.slice A bs.length cap, .int .i64 p, .int .i64 most] w' fun e w'' => e = .returned (.tuple #[.int .i64 (rdLen bs p most).1, .int .i64 (rdLen bs p most).2.1, .int .i64 (rdLen bs p most).2.2]) ∧ Below w'.heap.size w' w'' := fun w' hb => xlen_b A cap bs p most hB hl hk w' (Cs.to hp hb)
  have hin := @rdLen_in bs p most (rdLen bs p most).1 (rdLen bs p most).2.1 hB
  unfold rdStr
  generalize rdLen bs p most = r at *
  obtain ⟨n, to, e⟩ := r
  dsimp only at cL hin ⊢
  by_cases he : e = 0
  rotate_left
  focus
    rw [if_pos he]
    have heb : (e == 0) = false := by rw [beq_eq_false_iff_ne]; exact he
    clear he hin
    go_enter Try.func21, Try.ntmps21
    go_wp2_with (go_at_call 33; refine Calls.mono (gw_at (cL _ (by repeat (first | with_reducible exact Below.refl _ _ | with_reducible assumption | refine bgw ?_ (by first | (simp; done) | (simp; omega) | omega) _ | refine Below.setCell ?_ (by first | exact Nat.le_of_not_lt (by assumption) | (simp; done) | (simp; omega) | omega) _ | refine Below.alloc ?_ (by first | (simp; done) | (simp; omega) | omega) _ | refine Below.drew ?_)))) ?_; rintro e w1 ⟨rfl, q, rfl⟩)
    exact bodyPost_ret (v := .tuple #[.string (strOfNums []), .int .i64 0, .int .i64 e]) (by simp [results, Try.results21, go_sem, strOfNums]) rfl ⟨rfl, (by repeat (first | with_reducible exact Below.refl _ _ | with_reducible assumption | refine bgw ?_ (by first | (simp; done) | (simp; omega) | omega) _ | refine Below.setCell ?_ (by first | exact Nat.le_of_not_lt (by assumption) | (simp; done) | (simp; omega) | omega) _ | refine Below.alloc ?_ (by first | (simp; done) | (simp; omega) | omega) _ | refine Below.drew ?_))⟩
  subst he
  rw [if_neg (by simp)]
  obtain ⟨t0, t1, n0, n1⟩ := hin rfl
  clear hin
  by_cases hs : (bs.length : Int) - to < n
  focus
    rw [if_pos hs]
    go_enter Try.func21, Try.ntmps21
    go_wp2_with (go_at_call 33; refine Calls.mono (gw_at (cL _ (by repeat (first | with_reducible exact Below.refl _ _ | with_reducible assumption | refine bgw ?_ (by first | (simp; done) | (simp; omega) | omega) _ | refine Below.setCell ?_ (by first | exact Nat.le_of_not_lt (by assumption) | (simp; done) | (simp; omega) | omega) _ | refine Below.alloc ?_ (by first | (simp; done) | (simp; omega) | omega) _ | refine Below.drew ?_)))) ?_; rintro e w1 ⟨rfl, q, rfl⟩)
    exact bodyPost_ret (v := .tuple #[.string (strOfNums []), .int .i64 0, .int .i64 4]) (by simp [results, Try.results21, go_sem, strOfNums]) rfl ⟨rfl, (by repeat (first | with_reducible exact Below.refl _ _ | with_reducible assumption | refine bgw ?_ (by first | (simp; done) | (simp; omega) | omega) _ | refine Below.setCell ?_ (by first | exact Nat.le_of_not_lt (by assumption) | (simp; done) | (simp; omega) | omega) _ | refine Below.alloc ?_ (by first | (simp; done) | (simp; omega) | omega) _ | refine Below.drew ?_))⟩
  rw [if_neg hs]
  obtain ⟨T, rfl⟩ : ∃ T : Nat, to = T := ⟨to.toNat, by omega⟩
  obtain ⟨m, rfl⟩ : ∃ m : Nat, n = m := ⟨n.toNat, by omega⟩
  simp only [Int.toNat_natCast]
  have hml : ((bs.drop T).take m).length = m := by rw [List.length_take, List.length_drop]; omega
  by_cases hcT : cap = T
  focus
    have hm0 : m = 0 := by omega
    subst hm0 hcT
    have hcv : ∀ q, (convert 22 9 (.slice A 0 0)).run Try.prog (gw w q) = .ok (.string (strOfNums ((bs.drop cap).take 0))) (gw w q) := fun q => str_run Try.underlying22 Try.underlying5 Try.underlying9 (by simp) (show Byts w A ((bs.drop cap).take 0) from by rw [List.take_zero]; exact .inl rfl) (below_gw w q)
    generalize strOfNums ((bs.drop cap).take 0) = str at *
    go_enter Try.func21, Try.ntmps21
    go_wp2_with (go_at_call 33; refine Calls.mono (gw_at (cL _ (by repeat (first | with_reducible exact Below.refl _ _ | with_reducible assumption | refine bgw ?_ (by first | (simp; done) | (simp; omega) | omega) _ | refine Below.setCell ?_ (by first | exact Nat.le_of_not_lt (by assumption) | (simp; done) | (simp; omega) | omega) _ | refine Below.alloc ?_ (by first | (simp; done) | (simp; omega) | omega) _ | refine Below.drew ?_)))) ?_; rintro e w1 ⟨rfl, q, rfl⟩)
    exact bodyPost_ret (v := .tuple #[.string str, .int .i64 (((cap : Nat) : Int) + ((0 : Nat) : Int)), .int .i64 0]) (by simp [results, Try.results21, go_sem]) rfl ⟨rfl, (by repeat (first | with_reducible exact Below.refl _ _ | with_reducible assumption | refine bgw ?_ (by first | (simp; done) | (simp; omega) | omega) _ | refine Below.setCell ?_ (by first | exact Nat.le_of_not_lt (by assumption) | (simp; done) | (simp; omega) | omega) _ | refine Below.alloc ?_ (by first | (simp; done) | (simp; omega) | omega) _ | refine Below.drew ?_))⟩
  have hcv : ∀ q, (convert 22 9 (.slice (A.map (fun x => x.add T)) m (cap - T))).run Try.prog (gw w q) = .ok (.string (strOfNums ((bs.drop T).take m))) (gw w q) := fun q => str_run Try.underlying22 Try.underlying5 Try.underlying9 hml (Byts.take m (Byts.drop T hp)) (below_gw w q)
  generalize strOfNums ((bs.drop T).take m) = str at *
  go_enter Try.func21, Try.ntmps21
  go_wp2_with (go_at_call 33; refine Calls.mono (gw_at (cL _ (by repeat (first | with_reducible exact Below.refl _ _ | with_reducible assumption | refine bgw ?_ (by first | (simp; done) | (simp; omega) | omega) _ | refine Below.setCell ?_ (by first | exact Nat.le_of_not_lt (by assumption) | (simp; done) | (simp; omega) | omega) _ | refine Below.alloc ?_ (by first | (simp; done) | (simp; omega) | omega) _ | refine Below.drew ?_)))) ?_; rintro e w1 ⟨rfl, q, rfl⟩)
  exact bodyPost_ret (v := .tuple #[.string str, .int .i64 ((T : Int) + (m : Int)), .int .i64 0]) (by simp [results, Try.results21, go_sem]) rfl ⟨rfl, (by repeat (first | with_reducible exact Below.refl _ _ | with_reducible assumption | refine bgw ?_ (by first | (simp; done) | (simp; omega) | omega) _ | refine Below.setCell ?_ (by first | exact Nat.le_of_not_lt (by assumption) | (simp; done) | (simp; omega) | omega) _ | refine Below.alloc ?_ (by first | (simp; done) | (simp; omega) | omega) _ | refine Below.drew ?_))⟩

theorem xrv_b (A : Option Addr) (cap : Nat) (bs : List Int) (p : Int) (hB : isB bs) (hl : bs.length ≤ 1000000000) (hk : bs.length ≤ cap) (w : World) (hp : Byts w A bs) : Calls Try.prog 19 #[.slice A bs.length cap, .int .i64 p] w fun e w' => e = .returned (.tuple #[.agg #[.int .i64 (rdVec bs p).1.1, .int .i64 (rdVec bs p).1.2], .int .i64 (rdVec bs p).2.1, .int .i64 (rdVec bs p).2.2]) ∧ Below w.heap.size w w' := by
  have cI : ∀ (p : Int) w', Below w.heap.size w w' → Calls Try.prog 15 #[.slice A bs.length cap, .int .i64 p] w' fun e w'' => e = .returned (.tuple #[.int .i64 (rdInt bs p).1, .int .i64 (rdInt bs p).2.1, .int .i64 (rdInt bs p).2.2]) ∧ Below w'.heap.size w' w'' := fun p w' hb => xri_b A cap bs p hB hl hk w' (Cs.to hp hb)
  unfold rdVec
  by_cases he : (rdInt bs p).2.2 = 0
  rotate_left
  focus
    rw [if_pos he]
    have heb : ((rdInt bs p).2.2 == 0) = false := by rw [beq_eq_false_iff_ne]; exact he
    clear he
    go_enter Try.func19, Try.ntmps19
    go_wp2_with (go_at_call 15; refine Calls.mono (gw_at (cI _ _ (by repeat (first | with_reducible exact Below.refl _ _ | with_reducible assumption | refine bgw ?_ (by first | (simp; done) | (simp; omega) | omega) _ | refine Below.setCell ?_ (by first | exact Nat.le_of_not_lt (by assumption) | (simp; done) | (simp; omega) | omega) _ | refine Below.alloc ?_ (by first | (simp; done) | (simp; omega) | omega) _ | refine Below.drew ?_)))) ?_; rintro e w1 ⟨rfl, q, rfl⟩)
    exact bodyPost_ret (v := .tuple #[.agg #[.int .i64 0, .int .i64 0], .int .i64 0, .int .i64 (rdInt bs p).2.2]) (by simp [results, Try.results19, go_sem]) rfl ⟨rfl, (by repeat (first | with_reducible exact Below.refl _ _ | with_reducible assumption | refine bgw ?_ (by first | (simp; done) | (simp; omega) | omega) _ | refine Below.setCell ?_ (by first | exact Nat.le_of_not_lt (by assumption) | (simp; done) | (simp; omega) | omega) _ | refine Below.alloc ?_ (by first | (simp; done) | (simp; omega) | omega) _ | refine Below.drew ?_))⟩
  rw [if_neg (by simpa using he)]
  have heb : ((rdInt bs p).2.2 == 0) = true := by rw [beq_iff_eq]; exact he
  clear he
  by_cases hf : (rdInt bs (rdInt bs p).2.1).2.2 = 0
  rotate_left
  focus
    rw [if_pos hf]
    have hfb : ((rdInt bs (rdInt bs p).2.1).2.2 == 0) = false := by rw [beq_eq_false_iff_ne]; exact hf
    clear hf
    go_enter Try.func19, Try.ntmps19
    go_wp2_with (go_at_call 15; refine Calls.mono (gw_at (cI _ _ (by repeat (first | with_reducible exact Below.refl _ _ | with_reducible assumption | refine bgw ?_ (by first | (simp; done) | (simp; omega) | omega) _ | refine Below.setCell ?_ (by first | exact Nat.le_of_not_lt (by assumption) | (simp; done) | (simp; omega) | omega) _ | refine Below.alloc ?_ (by first | (simp; done) | (simp; omega) | omega) _ | refine Below.drew ?_)))) ?_; rintro e w1 ⟨rfl, q, rfl⟩)
    exact bodyPost_ret (v := .tuple #[.agg #[.int .i64 0, .int .i64 0], .int .i64 0, .int .i64 (rdInt bs (rdInt bs p).2.1).2.2]) (by simp [results, Try.results19, go_sem]) rfl ⟨rfl, (by repeat (first | with_reducible exact Below.refl _ _ | with_reducible assumption | refine bgw ?_ (by first | (simp; done) | (simp; omega) | omega) _ | refine Below.setCell ?_ (by first | exact Nat.le_of_not_lt (by assumption) | (simp; done) | (simp; omega) | omega) _ | refine Below.alloc ?_ (by first | (simp; done) | (simp; omega) | omega) _ | refine Below.drew ?_))⟩
  rw [if_neg (by simpa using hf)]
  have hfb : ((rdInt bs (rdInt bs p).2.1).2.2 == 0) = true := by rw [beq_iff_eq]; exact hf
  clear hf
  go_enter Try.func19, Try.ntmps19
  go_wp2_with (go_at_call 15; refine Calls.mono (gw_at (cI _ _ (by repeat (first | with_reducible exact Below.refl _ _ | with_reducible assumption | refine bgw ?_ (by first | (simp; done) | (simp; omega) | omega) _ | refine Below.setCell ?_ (by first | exact Nat.le_of_not_lt (by assumption) | (simp; done) | (simp; omega) | omega) _ | refine Below.alloc ?_ (by first | (simp; done) | (simp; omega) | omega) _ | refine Below.drew ?_)))) ?_; rintro e w1 ⟨rfl, q, rfl⟩)
  exact bodyPost_ret (v := .tuple #[.agg #[.int .i64 (rdInt bs p).1, .int .i64 (rdInt bs (rdInt bs p).2.1).1], .int .i64 (rdInt bs (rdInt bs p).2.1).2.1, .int .i64 0]) (by simp [results, Try.results19, go_sem]) rfl ⟨rfl, (by repeat (first | with_reducible exact Below.refl _ _ | with_reducible assumption | refine bgw ?_ (by first | (simp; done) | (simp; omega) | omega) _ | refine Below.setCell ?_ (by first | exact Nat.le_of_not_lt (by assumption) | (simp; done) | (simp; omega) | omega) _ | refine Below.alloc ?_ (by first | (simp; done) | (simp; omega) | omega) _ | refine Below.drew ?_))⟩

set_option maxHeartbeats 1000000 in
theorem xris_b (A : Option Addr) (cap : Nat) (bs : List Int) (p most : Int) (hB : isB bs) (hl : bs.length ≤ 1000000000) (w : World) (hp : Byts w A bs) (hcap : bs.length ≤ cap := by first | assumption | omega | (simp; done) | (simp; omega)) : Calls Try.prog 17 #[.slice A bs.length cap, .int .i64 p, .int .i64 most] w fun e w' => (∃ v, e = .returned (.tuple #[v, .int .i64 (rdInts bs p most).2.1, .int .i64 (rdInts bs p most).2.2]) ∧ w'.ownsRow w.heap.size 3 1 v (rdInts bs p most).1.length (iv (rdInts bs p most).1)) ∧ Below w.heap.size w w' := by
  have cL : ∀ w', Below w.heap.size w w' → Calls Try.prog 33 #[.slice A bs.length cap, .int .i64 p, .int .i64 most] w' fun e w'' => e = .returned (.tuple #[.int .i64 (rdLen bs p most).1, .int .i64 (rdLen bs p most).2.1, .int .i64 (rdLen bs p most).2.2]) ∧ Below w'.heap.size w' w'' := fun w' hb => xlen_b A cap bs p most hB hl hcap w' (Cs.to hp hb)
  have cI : ∀ (p : Int) w', Below w.heap.size w w' → Calls Try.prog 15 #[.slice A bs.length cap, .int .i64 p] w' fun e w'' => e = .returned (.tuple #[.int .i64 (rdInt bs p).1, .int .i64 (rdInt bs p).2.1, .int .i64 (rdInt bs p).2.2]) ∧ Below w'.heap.size w' w'' := fun p w' hb => xri_b A cap bs p hB hl hcap w' (Cs.to hp hb)
  have hin := @rdLen_in bs p most (rdLen bs p most).1 (rdLen bs p most).2.1 hB
  obtain ⟨R, hR⟩ : ∃ R, rdInts bs p most = R := ⟨_, rfl⟩
  rw [hR]
  unfold rdInts at hR
  generalize rdLen bs p most = r at *
  obtain ⟨n, to, e⟩ := r
  dsimp only at cL hin hR
  obtain ⟨i0, hi, hz0, hz1, hz2⟩ := info_parts info_i64'
  by_cases he : e = 0
  rotate_left
  focus
    rw [if_pos he] at hR
    subst hR
    have heb : (e == 0) = false := by rw [beq_eq_false_iff_ne]; exact he
    clear he hin
    go_enter Try.func17, Try.ntmps17
    go_wp2_with (go_at_call 33; refine Calls.mono (gw_at (cL _ (by repeat (first | with_reducible exact Below.refl _ _ | with_reducible assumption | refine bgw ?_ (by first | (simp; done) | (simp; omega) | omega) _ | refine Below.setCell ?_ (by first | exact Nat.le_of_not_lt (by assumption) | (simp; done) | (simp; omega) | omega) _ | refine Below.alloc ?_ (by first | (simp; done) | (simp; omega) | omega) _ | refine Below.drew ?_)))) ?_; rintro e w1 ⟨rfl, q, rfl⟩)
    exact bodyPost_ret (v := .tuple #[.slice none 0 0, .int .i64 0, .int .i64 e]) (by simp [results, Try.results17, go_sem]) rfl ⟨⟨_, rfl, owns_nil _ _ _⟩, (by repeat (first | with_reducible exact Below.refl _ _ | with_reducible assumption | refine bgw ?_ (by first | (simp; done) | (simp; omega) | omega) _ | refine Below.setCell ?_ (by first | exact Nat.le_of_not_lt (by assumption) | (simp; done) | (simp; omega) | omega) _ | refine Below.alloc ?_ (by first | (simp; done) | (simp; omega) | omega) _ | refine Below.drew ?_))⟩
  subst he
  rw [if_neg (by simp)] at hR
  obtain ⟨t0, t1, n0, n1⟩ := hin rfl
  clear hin
  obtain ⟨m, rfl⟩ : ∃ m : Nat, n = m := ⟨n.toNat, by omega⟩
  rw [Int.toNat_natCast] at hR
  have hR' : Hid (rdN bs m to [] = R) := hR
  clear hR
  go_enter Try.func17, Try.ntmps17
  go_wp2_with (go_at_call 33; refine Calls.mono (gw_at (cL _ (by repeat (first | with_reducible exact Below.refl _ _ | with_reducible assumption | refine bgw ?_ (by first | (simp; done) | (simp; omega) | omega) _ | refine Below.setCell ?_ (by first | exact Nat.le_of_not_lt (by assumption) | (simp; done) | (simp; omega) | omega) _ | refine Below.alloc ?_ (by first | (simp; done) | (simp; omega) | omega) _ | refine Below.drew ?_)))) ?_; rintro e w1 ⟨rfl, q, rfl⟩)
  go_loopw [1, 11, 25] (fun tv v i wr => ∃ (k : Nat) (acc : List Int) (t : Int), k ≤ m ∧ i = .int .i64 k ∧ tv = .int .i64 t ∧ (k : Int) ≤ t ∧ t ≤ bs.length ∧ wr.ownsRow w.heap.size 3 1 v k (iv acc) ∧ Hid (rdN bs (m - k) t acc = R) ∧ Below w.heap.size w wr)
    (fun _ _ i _ => (m - intOf i).toNat)
  case atStart => exact ⟨0, [], to, by omega, rfl, rfl, by omega, by omega, owns_nil _ _ _, hR', (by repeat (first | with_reducible exact Below.refl _ _ | with_reducible assumption | refine bgw ?_ (by first | (simp; done) | (simp; omega) | omega) _ | refine Below.setCell ?_ (by first | exact Nat.le_of_not_lt (by assumption) | (simp; done) | (simp; omega) | omega) _ | refine Below.alloc ?_ (by first | (simp; done) | (simp; omega) | omega) _ | refine Below.drew ?_))⟩
  case round =>
    obtain ⟨k, acc, t, hk, rfl, rfl, hkt, htl, hown, hrel, hbw⟩ := hrel
    have hsz := hbw.size
    have hacc : acc.length = k := by have := hown.1; simpa using this
    by_cases hlt : k < m
    · have i1 : (k : Int) < (m : Int) := by omega
      have hI := cI t
      have hrd := hrel.out
      rw [show m - k = (m - (k + 1)) + 1 from by omega, rdN] at hrd
      have hu := @rd_unique bs t (rdInt bs t).1 (rdInt bs t).2.1 hB
      generalize rdInt bs t = r at *
      obtain ⟨x, nx, f⟩ := r
      dsimp only at hI hrd hu
      by_cases hf : f = 0
      rotate_left
      focus
        rw [if_pos hf] at hrd
        subst hrd
        have hfb : (f == 0) = false := by rw [beq_eq_false_iff_ne]; exact hf
        clear hf hu hrel cI
        go_wp2_with (go_at_call 15; refine Calls.mono (gw_at (hI _ (by repeat (first | with_reducible exact Below.refl _ _ | with_reducible assumption | refine bgw ?_ (by first | (simp; done) | (simp; omega) | omega) _ | refine Below.setCell ?_ (by first | exact Nat.le_of_not_lt (by assumption) | (simp; done) | (simp; omega) | omega) _ | refine Below.alloc ?_ (by first | (simp; done) | (simp; omega) | omega) _ | refine Below.drew ?_)))) ?_; rintro e w1 ⟨rfl, q, rfl⟩)
        exact bodyPost_ret (v := .tuple #[.slice none 0 0, .int .i64 0, .int .i64 f]) (by simp [results, Try.results17, go_sem]) rfl ⟨⟨_, rfl, owns_nil _ _ _⟩, (by repeat (first | with_reducible exact Below.refl _ _ | with_reducible assumption | refine bgw ?_ (by first | (simp; done) | (simp; omega) | omega) _ | refine Below.setCell ?_ (by first | exact Nat.le_of_not_lt (by assumption) | (simp; done) | (simp; omega) | omega) _ | refine Below.alloc ?_ (by first | (simp; done) | (simp; omega) | omega) _ | refine Below.drew ?_))⟩
      subst hf
      rw [if_neg (by simp)] at hrd
      obtain ⟨u1, u2, u3, -⟩ := hu rfl
      have hrd' : Hid (rdN bs (m - (k + 1)) nx (acc ++ [x]) = R) := hrd
      clear hrd hu hrel cI hacc
      go_wp2_with (first
        | (go_at_call 15; refine Calls.mono (gw_at (hI _ (by repeat (first | with_reducible exact Below.refl _ _ | with_reducible assumption | refine bgw ?_ (by first | (simp; done) | (simp; omega) | omega) _ | refine Below.setCell ?_ (by first | exact Nat.le_of_not_lt (by assumption) | (simp; done) | (simp; omega) | omega) _ | refine Below.alloc ?_ (by first | (simp; done) | (simp; omega) | omega) _ | refine Below.drew ?_)))) ?_; rintro e w1 ⟨rfl, q, rfl⟩)
        | (at_builtin; refine wpList_app1 rfl _ _ 23 rfl w.heap.size 3 i0 (.int .i64 0) 8 Try.underlying23 hi hz0 hz1 hz2 rfl _ _ _ rfl (owns_below hown (by repeat (first | with_reducible exact Below.refl _ _ | with_reducible assumption | refine bgw ?_ (by first | (simp; done) | (simp; omega) | omega) _ | refine Below.setCell ?_ (by first | exact Nat.le_of_not_lt (by assumption) | (simp; done) | (simp; omega) | omega) _ | refine Below.alloc ?_ (by first | (simp; done) | (simp; omega) | omega) _ | refine Below.drew ?_))) _ (.int .i64 x) rfl (blk_cell (c := #[.int .i64 x]) (by repeat (first | with_reducible exact blk_new _ _ _ | ((with_reducible refine blk_at ?_); (simp; done)) | with_reducible apply blk_alloc | with_reducible apply blk_gw)) 0) rfl (by unfold maxLen; omega) (by omega) (by first | (simp; omega) | omega) ?_; intro v' w2 hown2 hb2))
      refine ⟨⟨k + 1, acc ++ [x], nx, by omega, by go_num, rfl, by omega, by omega, by rw [iv_append]; exact hown2, hrd', Below.trans (by repeat (first | with_reducible exact Below.refl _ _ | with_reducible assumption | refine bgw ?_ (by first | (simp; done) | (simp; omega) | omega) _ | refine Below.setCell ?_ (by first | exact Nat.le_of_not_lt (by assumption) | (simp; done) | (simp; omega) | omega) _ | refine Below.alloc ?_ (by first | (simp; done) | (simp; omega) | omega) _ | refine Below.drew ?_)) hb2⟩, by (try go_num); simp [intOf]; (try omega)⟩
    · obtain rfl : k = m := by omega
      have i1 : ¬ (k : Int) < (k : Int) := by omega
      have hrd := hrel.out
      rw [Nat.sub_self, rdN] at hrd
      subst hrd
      clear hrel
      subst hacc
      go_wp2_with fail
      exact bodyPost_ret (v := .tuple #[_, .int .i64 t, .int .i64 0]) (by simp [results, Try.results17, go_sem]) rfl ⟨⟨_, rfl, owns_below hown (by repeat (first | with_reducible exact Below.refl _ _ | with_reducible assumption | refine bgw ?_ (by first | (simp; done) | (simp; omega) | omega) _ | refine Below.setCell ?_ (by first | exact Nat.le_of_not_lt (by assumption) | (simp; done) | (simp; omega) | omega) _ | refine Below.alloc ?_ (by first | (simp; done) | (simp; omega) | omega) _ | refine Below.drew ?_))⟩, (by repeat (first | with_reducible exact Below.refl _ _ | with_reducible assumption | refine bgw ?_ (by first | (simp; done) | (simp; omega) | omega) _ | refine Below.setCell ?_ (by first | exact Nat.le_of_not_lt (by assumption) | (simp; done) | (simp; omega) | omega) _ | refine Below.alloc ?_ (by first | (simp; done) | (simp; omega) | omega) _ | refine Below.drew ?_))⟩

end Go.Proofs.Ytgpcldhgkaddeaa
