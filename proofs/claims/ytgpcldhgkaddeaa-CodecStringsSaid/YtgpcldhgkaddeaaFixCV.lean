/- Contracts of the reference of chapter 7, continued: lengths and vectors. -/
import Derived.Test.YtgpcldhgkaddeaaFixCB
set_option linter.unusedVariables false
namespace Go.Proofs.Ytgpcldhgkaddeaa
open Go.RowKit By

theorem rlen_b (A : Option Addr) (cap : Nat) (bs : List Int) (p most : Int) (hB : isB bs) (hl : bs.length ≤ 1073741824) (w : World) (hp : Byts w A bs) : Calls Try.prog 34 #[.slice A bs.length cap, .int .i64 p, .int .i64 most] w fun e w' => e = .returned (.tuple #[.int .i64 (rdLen bs p most).1, .int .i64 (rdLen bs p most).2.1, .int .i64 (rdLen bs p most).2.2]) ∧ Below w.heap.size w w' := by
  have cI : ∀ w', Below w.heap.size w w' → Calls Try.prog 24 #[.slice A bs.length cap, .int .i64 p] w' fun e w'' => e = .returned (.tuple #[.int .i64 (rdInt bs p).1, .int .i64 (rdInt bs p).2.1, .int .i64 (rdInt bs p).2.2]) ∧ Below w'.heap.size w' w'' := fun w' hb => rri_b A cap bs p hB hl w' (Cs.to hp hb)
  have hR : rdLen bs p most = if (rdInt bs p).2.2 ≠ 0 then (0, 0, (rdInt bs p).2.2) else if (rdInt bs p).1 < 0 then (0, 0, 3) else if max most 0 < (rdInt bs p).1 then (0, 0, 5) else ((rdInt bs p).1, (rdInt bs p).2.1, 0) := rfl
  rw [hR]
  clear hR
  generalize rdInt bs p = r at *
  obtain ⟨n, to, e⟩ := r
  dsimp only at cI ⊢
  by_cases he : e = 0
  rotate_left
  focus
    rw [if_pos he]
    have heb : (e == 0) = false := by rw [beq_eq_false_iff_ne]; exact he
    clear he
    go_enter Try.func34, Try.ntmps34
    go_wp2_with (go_at_call 24; refine Calls.mono (gw_at (cI _ (by repeat (first | with_reducible exact Below.refl _ _ | with_reducible assumption | refine bgw ?_ (by first | (simp; done) | (simp; omega) | omega) _ | refine Below.setCell ?_ (by first | exact Nat.le_of_not_lt (by assumption) | (simp; done) | (simp; omega) | omega) _ | refine Below.alloc ?_ (by first | (simp; done) | (simp; omega) | omega) _ | refine Below.drew ?_)))) ?_; rintro e w1 ⟨rfl, q, rfl⟩)
    exact bodyPost_ret (v := .tuple #[.int .i64 0, .int .i64 0, .int .i64 e]) (by simp [results, Try.results34, go_sem]) rfl ⟨rfl, (by repeat (first | with_reducible exact Below.refl _ _ | with_reducible assumption | refine bgw ?_ (by first | (simp; done) | (simp; omega) | omega) _ | refine Below.setCell ?_ (by first | exact Nat.le_of_not_lt (by assumption) | (simp; done) | (simp; omega) | omega) _ | refine Below.alloc ?_ (by first | (simp; done) | (simp; omega) | omega) _ | refine Below.drew ?_))⟩
  subst he
  rw [if_neg (by simp)]
  by_cases hn : n < 0
  focus
    rw [if_pos hn]
    go_enter Try.func34, Try.ntmps34
    go_wp2_with (go_at_call 24; refine Calls.mono (gw_at (cI _ (by repeat (first | with_reducible exact Below.refl _ _ | with_reducible assumption | refine bgw ?_ (by first | (simp; done) | (simp; omega) | omega) _ | refine Below.setCell ?_ (by first | exact Nat.le_of_not_lt (by assumption) | (simp; done) | (simp; omega) | omega) _ | refine Below.alloc ?_ (by first | (simp; done) | (simp; omega) | omega) _ | refine Below.drew ?_)))) ?_; rintro e w1 ⟨rfl, q, rfl⟩)
    exact bodyPost_ret (v := .tuple #[.int .i64 0, .int .i64 0, .int .i64 3]) (by simp [results, Try.results34, go_sem]) rfl ⟨rfl, (by repeat (first | with_reducible exact Below.refl _ _ | with_reducible assumption | refine bgw ?_ (by first | (simp; done) | (simp; omega) | omega) _ | refine Below.setCell ?_ (by first | exact Nat.le_of_not_lt (by assumption) | (simp; done) | (simp; omega) | omega) _ | refine Below.alloc ?_ (by first | (simp; done) | (simp; omega) | omega) _ | refine Below.drew ?_))⟩
  rw [if_neg hn]
  by_cases hz : most < 0 <;> by_cases hm : max most 0 < n
  focus
    rw [if_pos hm]
    have hmb : 0 < n := by omega
    clear hm
    go_enter Try.func34, Try.ntmps34
    go_wp2_with (go_at_call 24; refine Calls.mono (gw_at (cI _ (by repeat (first | with_reducible exact Below.refl _ _ | with_reducible assumption | refine bgw ?_ (by first | (simp; done) | (simp; omega) | omega) _ | refine Below.setCell ?_ (by first | exact Nat.le_of_not_lt (by assumption) | (simp; done) | (simp; omega) | omega) _ | refine Below.alloc ?_ (by first | (simp; done) | (simp; omega) | omega) _ | refine Below.drew ?_)))) ?_; rintro e w1 ⟨rfl, q, rfl⟩)
    exact bodyPost_ret (v := .tuple #[.int .i64 0, .int .i64 0, .int .i64 5]) (by simp [results, Try.results34, go_sem]) rfl ⟨rfl, (by repeat (first | with_reducible exact Below.refl _ _ | with_reducible assumption | refine bgw ?_ (by first | (simp; done) | (simp; omega) | omega) _ | refine Below.setCell ?_ (by first | exact Nat.le_of_not_lt (by assumption) | (simp; done) | (simp; omega) | omega) _ | refine Below.alloc ?_ (by first | (simp; done) | (simp; omega) | omega) _ | refine Below.drew ?_))⟩
  focus
    rw [if_neg hm]
    have hmb : ¬ 0 < n := by omega
    clear hm
    go_enter Try.func34, Try.ntmps34
    go_wp2_with (go_at_call 24; refine Calls.mono (gw_at (cI _ (by repeat (first | with_reducible exact Below.refl _ _ | with_reducible assumption | refine bgw ?_ (by first | (simp; done) | (simp; omega) | omega) _ | refine Below.setCell ?_ (by first | exact Nat.le_of_not_lt (by assumption) | (simp; done) | (simp; omega) | omega) _ | refine Below.alloc ?_ (by first | (simp; done) | (simp; omega) | omega) _ | refine Below.drew ?_)))) ?_; rintro e w1 ⟨rfl, q, rfl⟩)
    exact bodyPost_ret (v := .tuple #[.int .i64 n, .int .i64 to, .int .i64 0]) (by simp [results, Try.results34, go_sem]) rfl ⟨rfl, (by repeat (first | with_reducible exact Below.refl _ _ | with_reducible assumption | refine bgw ?_ (by first | (simp; done) | (simp; omega) | omega) _ | refine Below.setCell ?_ (by first | exact Nat.le_of_not_lt (by assumption) | (simp; done) | (simp; omega) | omega) _ | refine Below.alloc ?_ (by first | (simp; done) | (simp; omega) | omega) _ | refine Below.drew ?_))⟩
  focus
    rw [if_pos hm]
    have hmb : most < n := by omega
    clear hm
    go_enter Try.func34, Try.ntmps34
    go_wp2_with (go_at_call 24; refine Calls.mono (gw_at (cI _ (by repeat (first | with_reducible exact Below.refl _ _ | with_reducible assumption | refine bgw ?_ (by first | (simp; done) | (simp; omega) | omega) _ | refine Below.setCell ?_ (by first | exact Nat.le_of_not_lt (by assumption) | (simp; done) | (simp; omega) | omega) _ | refine Below.alloc ?_ (by first | (simp; done) | (simp; omega) | omega) _ | refine Below.drew ?_)))) ?_; rintro e w1 ⟨rfl, q, rfl⟩)
    exact bodyPost_ret (v := .tuple #[.int .i64 0, .int .i64 0, .int .i64 5]) (by simp [results, Try.results34, go_sem]) rfl ⟨rfl, (by repeat (first | with_reducible exact Below.refl _ _ | with_reducible assumption | refine bgw ?_ (by first | (simp; done) | (simp; omega) | omega) _ | refine Below.setCell ?_ (by first | exact Nat.le_of_not_lt (by assumption) | (simp; done) | (simp; omega) | omega) _ | refine Below.alloc ?_ (by first | (simp; done) | (simp; omega) | omega) _ | refine Below.drew ?_))⟩
  focus
    rw [if_neg hm]
    have hmb : ¬ most < n := by omega
    clear hm
    go_enter Try.func34, Try.ntmps34
    go_wp2_with (go_at_call 24; refine Calls.mono (gw_at (cI _ (by repeat (first | with_reducible exact Below.refl _ _ | with_reducible assumption | refine bgw ?_ (by first | (simp; done) | (simp; omega) | omega) _ | refine Below.setCell ?_ (by first | exact Nat.le_of_not_lt (by assumption) | (simp; done) | (simp; omega) | omega) _ | refine Below.alloc ?_ (by first | (simp; done) | (simp; omega) | omega) _ | refine Below.drew ?_)))) ?_; rintro e w1 ⟨rfl, q, rfl⟩)
    exact bodyPost_ret (v := .tuple #[.int .i64 n, .int .i64 to, .int .i64 0]) (by simp [results, Try.results34, go_sem]) rfl ⟨rfl, (by repeat (first | with_reducible exact Below.refl _ _ | with_reducible assumption | refine bgw ?_ (by first | (simp; done) | (simp; omega) | omega) _ | refine Below.setCell ?_ (by first | exact Nat.le_of_not_lt (by assumption) | (simp; done) | (simp; omega) | omega) _ | refine Below.alloc ?_ (by first | (simp; done) | (simp; omega) | omega) _ | refine Below.drew ?_))⟩

theorem rrv_b (A : Option Addr) (cap : Nat) (bs : List Int) (p : Int) (hB : isB bs) (hl : bs.length ≤ 1073741824) (w : World) (hp : Byts w A bs) : Calls Try.prog 26 #[.slice A bs.length cap, .int .i64 p] w fun e w' => e = .returned (.tuple #[.agg #[.int .i64 (rdVec bs p).1.1, .int .i64 (rdVec bs p).1.2], .int .i64 (rdVec bs p).2.1, .int .i64 (rdVec bs p).2.2]) ∧ Below w.heap.size w w' := by
  have cI : ∀ (p : Int) w', Below w.heap.size w w' → Calls Try.prog 24 #[.slice A bs.length cap, .int .i64 p] w' fun e w'' => e = .returned (.tuple #[.int .i64 (rdInt bs p).1, .int .i64 (rdInt bs p).2.1, .int .i64 (rdInt bs p).2.2]) ∧ Below w'.heap.size w' w'' := fun p w' hb => rri_b A cap bs p hB hl w' (Cs.to hp hb)
  unfold rdVec
  by_cases he : (rdInt bs p).2.2 = 0
  rotate_left
  focus
    rw [if_pos he]
    have heb : ((rdInt bs p).2.2 == 0) = false := by rw [beq_eq_false_iff_ne]; exact he
    clear he
    go_enter Try.func26, Try.ntmps26
    go_wp2_with (go_at_call 24; refine Calls.mono (gw_at (cI _ _ (by repeat (first | with_reducible exact Below.refl _ _ | with_reducible assumption | refine bgw ?_ (by first | (simp; done) | (simp; omega) | omega) _ | refine Below.setCell ?_ (by first | exact Nat.le_of_not_lt (by assumption) | (simp; done) | (simp; omega) | omega) _ | refine Below.alloc ?_ (by first | (simp; done) | (simp; omega) | omega) _ | refine Below.drew ?_)))) ?_; rintro e w1 ⟨rfl, q, rfl⟩)
    exact bodyPost_ret (v := .tuple #[.agg #[.int .i64 0, .int .i64 0], .int .i64 0, .int .i64 (rdInt bs p).2.2]) (by simp [results, Try.results26, go_sem]) rfl ⟨rfl, (by repeat (first | with_reducible exact Below.refl _ _ | with_reducible assumption | refine bgw ?_ (by first | (simp; done) | (simp; omega) | omega) _ | refine Below.setCell ?_ (by first | exact Nat.le_of_not_lt (by assumption) | (simp; done) | (simp; omega) | omega) _ | refine Below.alloc ?_ (by first | (simp; done) | (simp; omega) | omega) _ | refine Below.drew ?_))⟩
  rw [if_neg (by simpa using he)]
  have heb : ((rdInt bs p).2.2 == 0) = true := by rw [beq_iff_eq]; exact he
  clear he
  by_cases hf : (rdInt bs (rdInt bs p).2.1).2.2 = 0
  rotate_left
  focus
    rw [if_pos hf]
    have hfb : ((rdInt bs (rdInt bs p).2.1).2.2 == 0) = false := by rw [beq_eq_false_iff_ne]; exact hf
    clear hf
    go_enter Try.func26, Try.ntmps26
    go_wp2_with (go_at_call 24; refine Calls.mono (gw_at (cI _ _ (by repeat (first | with_reducible exact Below.refl _ _ | with_reducible assumption | refine bgw ?_ (by first | (simp; done) | (simp; omega) | omega) _ | refine Below.setCell ?_ (by first | exact Nat.le_of_not_lt (by assumption) | (simp; done) | (simp; omega) | omega) _ | refine Below.alloc ?_ (by first | (simp; done) | (simp; omega) | omega) _ | refine Below.drew ?_)))) ?_; rintro e w1 ⟨rfl, q, rfl⟩)
    exact bodyPost_ret (v := .tuple #[.agg #[.int .i64 0, .int .i64 0], .int .i64 0, .int .i64 (rdInt bs (rdInt bs p).2.1).2.2]) (by simp [results, Try.results26, go_sem]) rfl ⟨rfl, (by repeat (first | with_reducible exact Below.refl _ _ | with_reducible assumption | refine bgw ?_ (by first | (simp; done) | (simp; omega) | omega) _ | refine Below.setCell ?_ (by first | exact Nat.le_of_not_lt (by assumption) | (simp; done) | (simp; omega) | omega) _ | refine Below.alloc ?_ (by first | (simp; done) | (simp; omega) | omega) _ | refine Below.drew ?_))⟩
  rw [if_neg (by simpa using hf)]
  have hfb : ((rdInt bs (rdInt bs p).2.1).2.2 == 0) = true := by rw [beq_iff_eq]; exact hf
  clear hf
  go_enter Try.func26, Try.ntmps26
  go_wp2_with (go_at_call 24; refine Calls.mono (gw_at (cI _ _ (by repeat (first | with_reducible exact Below.refl _ _ | with_reducible assumption | refine bgw ?_ (by first | (simp; done) | (simp; omega) | omega) _ | refine Below.setCell ?_ (by first | exact Nat.le_of_not_lt (by assumption) | (simp; done) | (simp; omega) | omega) _ | refine Below.alloc ?_ (by first | (simp; done) | (simp; omega) | omega) _ | refine Below.drew ?_)))) ?_; rintro e w1 ⟨rfl, q, rfl⟩)
  exact bodyPost_ret (v := .tuple #[.agg #[.int .i64 (rdInt bs p).1, .int .i64 (rdInt bs (rdInt bs p).2.1).1], .int .i64 (rdInt bs (rdInt bs p).2.1).2.1, .int .i64 0]) (by simp [results, Try.results26, go_sem]) rfl ⟨rfl, (by repeat (first | with_reducible exact Below.refl _ _ | with_reducible assumption | refine bgw ?_ (by first | (simp; done) | (simp; omega) | omega) _ | refine Below.setCell ?_ (by first | exact Nat.le_of_not_lt (by assumption) | (simp; done) | (simp; omega) | omega) _ | refine Below.alloc ?_ (by first | (simp; done) | (simp; omega) | omega) _ | refine Below.drew ?_))⟩

theorem rints_b (A B : Option Addr) (ca cb : Nat) (ns ms : List Int) (hn : ns.length ≤ 65536) (hm : ms.length ≤ 65536) (w : World) (ha : Ints w A ns) (hb : Ints w B ms) : Calls Try.prog 18 #[.slice A ns.length ca, .slice B ms.length cb] w fun e w' => e = .returned (.bool (decide (ns = ms))) ∧ Below w.heap.size w w' := by
  obtain ⟨P, hP⟩ : ∃ P, decide (ns = ms) = P := ⟨_, rfl⟩
  rw [hP]
  by_cases hlen : ns.length = ms.length
  rotate_left
  focus
    have e : P = false := hP.symm.trans (decide_eq_false fun h => hlen (by rw [h]))
    subst e
    have hlen' : ¬ (ns.length : Int) = (ms.length : Int) := by omega
    go_enter Try.func18, Try.ntmps18
    go_wp2_with fail
    repeat
      refine wp_region_gw (by kernel_rfl) (by kernel_rfl) ?_
      repeat (go_big_quiet_step (fail))
      refine wpQuiet_nil ?_
      intro w1 hw1
      obtain ⟨q, rfl⟩ := hw1
      go_wp2_with fail
    go_ret
    exact ⟨rfl, (by repeat (first | with_reducible exact Below.refl _ _ | with_reducible assumption | refine bgw ?_ (by first | (simp; done) | (simp; omega) | omega) _ | refine Below.setCell ?_ (by first | exact Nat.le_of_not_lt (by assumption) | (simp; done) | (simp; omega) | omega) _ | refine Below.alloc ?_ (by first | (simp; done) | (simp; omega) | omega) _ | refine Below.drew ?_))⟩
  rw [hlen]
  go_enter Try.func18, Try.ntmps18
  go_wp2_with fail
  go_loopw [5] (fun i wr => ∃ k : Nat, k ≤ ms.length ∧ i = .int .i64 k ∧ ns.take k = ms.take k ∧ Below w.heap.size w wr)
    (fun i _ => (ms.length - intOf i).toNat)
  case atStart => exact ⟨0, by omega, rfl, by simp, (by repeat (first | with_reducible exact Below.refl _ _ | with_reducible assumption | refine bgw ?_ (by first | (simp; done) | (simp; omega) | omega) _ | refine Below.setCell ?_ (by first | exact Nat.le_of_not_lt (by assumption) | (simp; done) | (simp; omega) | omega) _ | refine Below.alloc ?_ (by first | (simp; done) | (simp; omega) | omega) _ | refine Below.drew ?_))⟩
  case round =>
    obtain ⟨k, hk, rfl, hall, hbw⟩ := hrel
    have hsz := hbw.size
    by_cases hlt : k < ms.length
    · have i0 : (0 : Int) ≤ (k : Int) := by omega
      have i1 : (k : Int) < (ms.length : Int) := by omega
      obtain ⟨b1, off1, rfl, h1⟩ := Ints.open (ha.to hbw) (by omega)
      obtain ⟨b2, off2, rfl, h2⟩ := Ints.open (hb.to hbw) (by omega)
      have d1 := h1 k (by omega)
      have d2 := h2 k hlt
      have o1 := older_of_cell d1
      have o2 := older_of_cell d2
      generalize hx : ns[k] = x at *
      generalize hy : ms[k] = y at *
      by_cases hxy : x = y
      · subst hxy
        go_wp2_with fail
        refine wp_region_gw (by kernel_rfl) (by kernel_rfl) ?_
        repeat (go_big_quiet_step (fail))
        refine wpQuiet_nil ?_
        intro w1 hw1
        obtain ⟨q, rfl⟩ := hw1
        go_wp2_with fail
        refine ⟨⟨k + 1, by omega, by go_num, ?_, (by repeat (first | with_reducible exact Below.refl _ _ | with_reducible assumption | refine bgw ?_ (by first | (simp; done) | (simp; omega) | omega) _ | refine Below.setCell ?_ (by first | exact Nat.le_of_not_lt (by assumption) | (simp; done) | (simp; omega) | omega) _ | refine Below.alloc ?_ (by first | (simp; done) | (simp; omega) | omega) _ | refine Below.drew ?_))⟩, by (try go_num); simp [intOf]; (try omega)⟩
        rw [List.take_add_one, List.take_add_one, List.getElem?_eq_getElem (show k < ns.length by omega), List.getElem?_eq_getElem hlt, hall, hx, hy]
      · have e : P = false := hP.symm.trans (decide_eq_false fun h => hxy (by rw [← hx, ← hy]; simp only [h]))
        subst e
        go_wp2_with fail
        refine wp_region_gw (by kernel_rfl) (by kernel_rfl) ?_
        repeat (go_big_quiet_step (fail))
        refine wpQuiet_nil ?_
        intro w1 hw1
        obtain ⟨q, rfl⟩ := hw1
        go_wp2_with fail
        go_ret
        exact ⟨rfl, (by repeat (first | with_reducible exact Below.refl _ _ | with_reducible assumption | refine bgw ?_ (by first | (simp; done) | (simp; omega) | omega) _ | refine Below.setCell ?_ (by first | exact Nat.le_of_not_lt (by assumption) | (simp; done) | (simp; omega) | omega) _ | refine Below.alloc ?_ (by first | (simp; done) | (simp; omega) | omega) _ | refine Below.drew ?_))⟩
    · obtain rfl : k = ms.length := by omega
      have i1 : ¬ (ms.length : Int) < (ms.length : Int) := by omega
      have e : P = true := hP.symm.trans (decide_eq_true (by rw [List.take_length, ← hlen, List.take_length] at hall; exact hall))
      subst e
      go_wp2_with fail
      go_ret
      exact ⟨rfl, (by repeat (first | with_reducible exact Below.refl _ _ | with_reducible assumption | refine bgw ?_ (by first | (simp; done) | (simp; omega) | omega) _ | refine Below.setCell ?_ (by first | exact Nat.le_of_not_lt (by assumption) | (simp; done) | (simp; omega) | omega) _ | refine Below.alloc ?_ (by first | (simp; done) | (simp; omega) | omega) _ | refine Below.drew ?_))⟩

end Go.Proofs.Ytgpcldhgkaddeaa
