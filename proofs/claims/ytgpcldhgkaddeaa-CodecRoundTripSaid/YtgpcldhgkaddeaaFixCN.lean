/- The walks of chapter 7's statements on round trips and on memory: each returns true for every input, and nothing that existed has changed. No conditions. -/
import Derived.Test.YtgpcldhgkaddeaaFixCM
set_option linter.unusedVariables false
namespace Go.Proofs.Ytgpcldhgkaddeaa
open Go.RowKit By

set_option maxRecDepth 100000 in
set_option maxHeartbeats 8000000 in
theorem walk_CodecRoundTrip (A : Option Addr) (cap : Nat) (bs : List Int) (n : Int) (x : Bool) (B : Option Addr) (cb : Nat) (ls : List Int) (C : Option Addr) (cc : Nat) (ms : List Int) (hB : isB bs) (hn : i64 n) (hI : ∀ n ∈ ls, i64 n) (hM : isB ms) (w : World) (hp : Byts w A bs) (hl : bs.length ≤ cap) (hc : cap ≤ maxLen) (hA : A = none → cap = 0) (hq : Ints w B ls) (hr : Byts w C ms) (hC : C = none → cc = 0) : Calls Try.prog 3 #[.slice A bs.length cap, .int .i64 n, .bool x, .slice B ls.length cb, .slice C ms.length cc] w fun e w' => e = .returned (.bool true) ∧ Below w.heap.size w w' := by
  by_cases h1 : bs.length ≤ 2000 ∧ ls.length ≤ 100
  rotate_left
  focus
    have cS : ∀ w', Calls Try.prog 9 #[.slice A bs.length cap, .string { data := #[] }, .slice B ls.length cb] w' fun e w'' => e = .returned (.bool false) ∧ Below w'.heap.size w' w'' := fun w' => small_no A B bs.length cap ls.length cb { data := #[] } (by omega) w'
    go_enter Try.func3, Try.ntmps3
    go_wp2_with (first
      | (go_at_call 9; refine Calls.mono (gw_at (cS _)) ?_; rintro e w1 ⟨rfl, q, rfl⟩)
      | (go_at_call 10; refine Calls.mono (gw_at (example7_b _)) ?_; rintro e w1 ⟨rfl, q, rfl⟩))
    go_ret
    exact ⟨rfl, (by repeat (first | with_reducible exact Below.refl _ _ | with_reducible assumption | refine bgw ?_ (by first | (simp; done) | (simp; omega) | omega) _ | refine Below.setCell ?_ (by first | exact Nat.le_of_not_lt (by assumption) | (simp; done) | (simp; omega) | omega) _ | refine Below.alloc ?_ (by first | (simp; done) | (simp; omega) | omega) _ | refine Below.drew ?_))⟩
  obtain ⟨hb2, hl1⟩ := h1
  have cS : ∀ w', Calls Try.prog 9 #[.slice A bs.length cap, .string { data := #[] }, .slice B ls.length cb] w' fun e w'' => e = .returned (.bool true) ∧ Below w'.heap.size w' w'' := fun w' => small_yes A B bs.length cap ls.length cb { data := #[] } hb2 (by decide) hl1 w'
  by_cases h2 : 2000 < ms.length
  focus
    have h2' : (2000 : Int) < (ms.length : Int) := by omega
    go_enter Try.func3, Try.ntmps3
    go_wp2_with (first
      | (go_at_call 9; refine Calls.mono (gw_at (cS _)) ?_; rintro e w1 ⟨rfl, q, rfl⟩)
      | (go_at_call 10; refine Calls.mono (gw_at (example7_b _)) ?_; rintro e w1 ⟨rfl, q, rfl⟩))
    go_ret
    exact ⟨rfl, (by repeat (first | with_reducible exact Below.refl _ _ | with_reducible assumption | refine bgw ?_ (by first | (simp; done) | (simp; omega) | omega) _ | refine Below.setCell ?_ (by first | exact Nat.le_of_not_lt (by assumption) | (simp; done) | (simp; omega) | omega) _ | refine Below.alloc ?_ (by first | (simp; done) | (simp; omega) | omega) _ | refine Below.drew ?_))⟩
  have h2' : ¬ (2000 : Int) < (ms.length : Int) := by omega
  obtain ⟨i0, hi, hz0, hz1, hz2⟩ := info_parts info_u8
  have hbl : i64 (bs.length : Int) := ⟨by omega, by omega⟩
  obtain ⟨E1, hE1⟩ : ∃ E, (enc n).length = E := ⟨_, rfl⟩
  obtain ⟨E3, hE3⟩ : ∃ E, (encInts ls).length = E := ⟨_, rfl⟩
  obtain ⟨E4, hE4⟩ : ∃ E, (enc n ++ enc (bs.length : Int)).length = E := ⟨_, rfl⟩
  have k1 : E1 ≤ 9 := by rw [← hE1]; exact enc_le hn.1 hn.2
  have k3 : E3 ≤ 909 := by
    rw [← hE3]
    have g1 := encAll_le ls fun n hn => hI n hn
    have g2 := enc_le (n := (ls.length : Int)) (by omega) (by omega)
    simp only [encInts, List.length_append]; omega
  have k4 : E4 ≤ 18 := by
    rw [← hE4]
    have g1 := enc_le hn.1 hn.2
    have g2 := enc_le hbl.1 hbl.2
    simp only [List.length_append]; omega
  have b1 : isB (bs ++ enc n ++ ms) := isB_append (isB_append hB (enc_isB hn.1 hn.2)) hM
  have b2 : isB (bs ++ encBool x ++ ms) := isB_append (isB_append hB (by intro y hy; cases x <;> simp [encBool] at hy <;> omega)) hM
  have ball : ∀ l : List Int, (∀ n ∈ l, i64 n) → isB (encAll l) := fun l => by
    induction l with
    | nil => intro _ y hy; cases hy
    | cons z l ih => intro h; exact isB_append (enc_isB (h z (List.mem_cons_self ..)).1 (h z (List.mem_cons_self ..)).2) (ih fun y hy => h y (List.mem_cons_of_mem _ hy))
  have b3 : isB (bs ++ encInts ls ++ ms) := isB_append (isB_append hB (isB_append (enc_isB (by omega) (by omega)) (ball ls hI))) hM
  have b4 : isB (bs ++ (enc n ++ enc (bs.length : Int)) ++ ms) := isB_append (isB_append hB (isB_append (enc_isB hn.1 hn.2) (enc_isB hbl.1 hbl.2))) hM
  clear ball
  have a1 : ∀ w', Below w.heap.size w w' → Calls Try.prog 11 #[.slice A bs.length cap, .int .i64 n] w' fun e w'' => (∃ v, e = .returned v ∧ w''.ownsRow w'.heap.size 5 1 v (bs.length + E1) (yv (bs ++ enc n))) ∧ Below w'.heap.size w' w'' := fun w' hb => hE1 ▸ xai_b A cap bs n (by omega) hn hA w' (Cs.to hp hb)
  have a2 : ∀ w', Below w.heap.size w w' → Calls Try.prog 12 #[.slice A bs.length cap, .bool x] w' fun e w'' => (∃ v, e = .returned v ∧ w''.ownsRow w'.heap.size 5 1 v (bs.length + 1) (yv (bs ++ encBool x))) ∧ Below w'.heap.size w' w'' := fun w' hb => xab_b A cap bs x (by omega) hA w' (Cs.to hp hb)
  have a3 : ∀ w', Below w.heap.size w w' → Calls Try.prog 13 #[.slice A bs.length cap, .slice B ls.length cb] w' fun e w'' => (∃ v, e = .returned v ∧ w''.ownsRow w'.heap.size 5 1 v (bs.length + E3) (yv (bs ++ encInts ls))) ∧ Below w'.heap.size w' w'' := fun w' hb => hE3 ▸ xais_b A cap bs B cb ls (by omega) (by omega) hI hA w' (Cs.to hp hb) (Cs.to hq hb)
  have a4 : ∀ w', Below w.heap.size w w' → Calls Try.prog 14 #[.slice A bs.length cap, .agg #[.int .i64 n, .int .i64 bs.length]] w' fun e w'' => (∃ v, e = .returned v ∧ w''.ownsRow w'.heap.size 5 1 v (bs.length + E4) (yv (bs ++ (enc n ++ enc (bs.length : Int))))) ∧ Below w'.heap.size w' w'' := fun w' hb => hE4 ▸ xav_b A cap bs n bs.length (by omega) hn hbl hA w' (Cs.to hp hb)
  have r1 : ∀ (A' : Option Addr) (cap' : Nat) w', bs.length + E1 + ms.length ≤ cap' → Byts w' A' (bs ++ enc n ++ ms) → Calls Try.prog 15 #[.slice A' (bs.length + E1 + ms.length) cap', .int .i64 bs.length] w' fun e w'' => e = .returned (.tuple #[.int .i64 n, .int .i64 ((bs.length : Int) + E1), .int .i64 0]) ∧ Below w'.heap.size w' w'' := fun A' cap' w' hk hb => by
    have hlen : (bs ++ enc n ++ ms).length = bs.length + E1 + ms.length := by simp only [List.length_append, hE1]
    have := xri_b A' cap' (bs ++ enc n ++ ms) bs.length b1 (by omega) (by omega) w' hb
    rw [hlen, List.append_assoc, rd_enc hn.1 hn.2, hE1] at this
    exact this
  have r2 : ∀ (A' : Option Addr) (cap' : Nat) w', bs.length + 1 + ms.length ≤ cap' → Byts w' A' (bs ++ encBool x ++ ms) → Calls Try.prog 16 #[.slice A' (bs.length + 1 + ms.length) cap', .int .i64 bs.length] w' fun e w'' => e = .returned (.tuple #[.bool x, .int .i64 ((bs.length : Int) + 1), .int .i64 0]) ∧ Below w'.heap.size w' w'' := fun A' cap' w' hk hb => by
    have hlen : (bs ++ encBool x ++ ms).length = bs.length + 1 + ms.length := by simp [encBool]; omega
    have := xrb_b A' cap' (bs ++ encBool x ++ ms) bs.length b2 (by omega) (by omega) w' hb
    rw [hlen, List.append_assoc, rdBool_enc] at this
    exact this
  have r3 : ∀ (A' : Option Addr) (cap' : Nat) w', bs.length + E3 + ms.length ≤ cap' → Byts w' A' (bs ++ encInts ls ++ ms) → Calls Try.prog 17 #[.slice A' (bs.length + E3 + ms.length) cap', .int .i64 bs.length, .int .i64 ls.length] w' fun e w'' => (∃ v, e = .returned (.tuple #[v, .int .i64 ((bs.length : Int) + E3), .int .i64 0]) ∧ w''.ownsRow w'.heap.size 3 1 v ls.length (iv ls)) ∧ Below w'.heap.size w' w'' := fun A' cap' w' hk hb => by
    have hlen : (bs ++ encInts ls ++ ms).length = bs.length + E3 + ms.length := by simp only [List.length_append, hE3]
    have := xris_b A' cap' (bs ++ encInts ls ++ ms) bs.length ls.length b3 (by omega) w' hb
    rw [hlen, List.append_assoc, rdInts_enc (by omega) hI bs ms (by omega), hE3] at this
    exact this
  have r4 : ∀ (A' : Option Addr) (cap' : Nat) w', bs.length + E4 + ms.length ≤ cap' → Byts w' A' (bs ++ (enc n ++ enc (bs.length : Int)) ++ ms) → Calls Try.prog 19 #[.slice A' (bs.length + E4 + ms.length) cap', .int .i64 bs.length] w' fun e w'' => e = .returned (.tuple #[.agg #[.int .i64 n, .int .i64 bs.length], .int .i64 ((bs.length : Int) + E4), .int .i64 0]) ∧ Below w'.heap.size w' w'' := fun A' cap' w' hk hb => by
    have hlen : (bs ++ (enc n ++ enc (bs.length : Int)) ++ ms).length = bs.length + E4 + ms.length := by simp only [List.length_append] at hE4 ⊢; omega
    have hE : (bs.length : Int) + (enc n).length + (enc (bs.length : Int)).length = (bs.length : Int) + E4 := by simp only [List.length_append] at hE4; omega
    have := xrv_b A' cap' (bs ++ (enc n ++ enc (bs.length : Int)) ++ ms) bs.length b4 (by omega) (by omega) w' hb
    rw [hlen, List.append_assoc bs, rdVec_enc hn hbl, hE] at this
    exact this
  have cI : ∀ (X : Option Addr) (cx : Nat) w', Ints w' X ls → Ints w' B ls → Calls Try.prog 18 #[.slice X ls.length cx, .slice B ls.length cb] w' fun e w'' => e = .returned (.bool true) ∧ Below w'.heap.size w' w'' := fun X cx w' h1 h2 => by
    have := rints_b X B cx cb ls ls (by omega) (by omega) w' h1 h2
    simpa using this
  have f1 : ∀ E : Nat, ((bs.length : Int) + (E : Int) == ((bs.length : Int) + (E : Int) + (ms.length : Int)) - (ms.length : Int)) = true := fun E => by rw [beq_iff_eq]; omega
  clear hE1 hE3 hE4 b1 b2 b3 b4
  go_enter Try.func3, Try.ntmps3
  go_wp2_with (first
    | (go_at_call 9; refine Calls.mono (gw_at (cS _)) ?_; rintro e w1 ⟨rfl, q, rfl⟩)
    | (go_at_call 11; refine Calls.mono (gw_ex (a1 _ (by repeat (first | with_reducible exact Below.refl _ _ | with_reducible assumption | refine bgw ?_ (by first | (simp; done) | (simp; omega) | omega) _ | refine Below.setCell ?_ (by first | exact Nat.le_of_not_lt (by assumption) | (simp; done) | (simp; omega) | omega) _ | refine Below.alloc ?_ (by first | (simp; done) | (simp; omega) | omega) _ | refine Below.drew ?_)))) ?_; rintro e w1 ⟨⟨v1, rfl, hown1⟩, q1, rfl⟩)
    | (at_builtin; refine wpList_appN rfl (.tmp 41) (.tmp 42) 22 rfl _ 5 i0 (.int .u8 0) 1 Try.underlying22 hi hz0 hz1 hz2 rfl _ _ _ rfl hown1 _ _ _ (yv ms) rfl hC (by simp) (Cs.to hr (by repeat (first | with_reducible exact Below.refl _ _ | with_reducible assumption | refine bgw ?_ (by first | (simp; done) | (simp; omega) | omega) _ | refine Below.setCell ?_ (by first | exact Nat.le_of_not_lt (by assumption) | (simp; done) | (simp; omega) | omega) _ | refine Below.alloc ?_ (by first | (simp; done) | (simp; omega) | omega) _ | refine Below.drew ?_))) (yv_one _) (by unfold maxLen; omega) (by omega) (by first | (simp; done) | (simp; omega) | omega) ?_; intro v9 w9 hown9 hb9; rw [← yv_append] at hown9; obtain ⟨q9, rfl⟩ := gw_of_below (Below.trans (below_gw _ _) hb9); obtain ⟨A1, cap1, rfl, hlen1, hle1, hmx1, hnil1, hcs1, -⟩ := str_of_row hown9; clear hown1 hown9 hb9 hmx1 hnil1 hlen1)
    | (go_at_call 12; refine Calls.mono (gw_ex (a2 _ (by repeat (first | with_reducible exact Below.refl _ _ | with_reducible assumption | refine bgw ?_ (by first | (simp; done) | (simp; omega) | omega) _ | refine Below.setCell ?_ (by first | exact Nat.le_of_not_lt (by assumption) | (simp; done) | (simp; omega) | omega) _ | refine Below.alloc ?_ (by first | (simp; done) | (simp; omega) | omega) _ | refine Below.drew ?_)))) ?_; rintro e w1 ⟨⟨v2, rfl, hown2⟩, q2, rfl⟩)
    | (at_builtin; refine wpList_appN rfl (.tmp 46) (.tmp 47) 22 rfl _ 5 i0 (.int .u8 0) 1 Try.underlying22 hi hz0 hz1 hz2 rfl _ _ _ rfl hown2 _ _ _ (yv ms) rfl hC (by simp) (Cs.to hr (by repeat (first | with_reducible exact Below.refl _ _ | with_reducible assumption | refine bgw ?_ (by first | (simp; done) | (simp; omega) | omega) _ | refine Below.setCell ?_ (by first | exact Nat.le_of_not_lt (by assumption) | (simp; done) | (simp; omega) | omega) _ | refine Below.alloc ?_ (by first | (simp; done) | (simp; omega) | omega) _ | refine Below.drew ?_))) (yv_one _) (by unfold maxLen; omega) (by omega) (by first | (simp; done) | (simp; omega) | omega) ?_; intro v9 w9 hown9 hb9; rw [← yv_append] at hown9; obtain ⟨q9, rfl⟩ := gw_of_below (Below.trans (below_gw _ _) hb9); obtain ⟨A2, cap2, rfl, hlen2, hle2, hmx2, hnil2, hcs2, -⟩ := str_of_row hown9; clear hown2 hown9 hb9 hmx2 hnil2 hlen2)
    | (go_at_call 13; refine Calls.mono (gw_ex (a3 _ (by repeat (first | with_reducible exact Below.refl _ _ | with_reducible assumption | refine bgw ?_ (by first | (simp; done) | (simp; omega) | omega) _ | refine Below.setCell ?_ (by first | exact Nat.le_of_not_lt (by assumption) | (simp; done) | (simp; omega) | omega) _ | refine Below.alloc ?_ (by first | (simp; done) | (simp; omega) | omega) _ | refine Below.drew ?_)))) ?_; rintro e w1 ⟨⟨v3, rfl, hown3⟩, q3, rfl⟩)
    | (at_builtin; refine wpList_appN rfl (.tmp 51) (.tmp 52) 22 rfl _ 5 i0 (.int .u8 0) 1 Try.underlying22 hi hz0 hz1 hz2 rfl _ _ _ rfl hown3 _ _ _ (yv ms) rfl hC (by simp) (Cs.to hr (by repeat (first | with_reducible exact Below.refl _ _ | with_reducible assumption | refine bgw ?_ (by first | (simp; done) | (simp; omega) | omega) _ | refine Below.setCell ?_ (by first | exact Nat.le_of_not_lt (by assumption) | (simp; done) | (simp; omega) | omega) _ | refine Below.alloc ?_ (by first | (simp; done) | (simp; omega) | omega) _ | refine Below.drew ?_))) (yv_one _) (by unfold maxLen; omega) (by omega) (by first | (simp; done) | (simp; omega) | omega) ?_; intro v9 w9 hown9 hb9; rw [← yv_append] at hown9; obtain ⟨q9, rfl⟩ := gw_of_below (Below.trans (below_gw _ _) hb9); obtain ⟨A3, cap3, rfl, hlen3, hle3, hmx3, hnil3, hcs3, -⟩ := str_of_row hown9; clear hown3 hown9 hb9 hmx3 hnil3 hlen3)
    | (go_at_call 14; refine Calls.mono (gw_ex (a4 _ (by repeat (first | with_reducible exact Below.refl _ _ | with_reducible assumption | refine bgw ?_ (by first | (simp; done) | (simp; omega) | omega) _ | refine Below.setCell ?_ (by first | exact Nat.le_of_not_lt (by assumption) | (simp; done) | (simp; omega) | omega) _ | refine Below.alloc ?_ (by first | (simp; done) | (simp; omega) | omega) _ | refine Below.drew ?_)))) ?_; rintro e w1 ⟨⟨v4, rfl, hown4⟩, q4, rfl⟩)
    | (at_builtin; refine wpList_appN rfl (.tmp 56) (.tmp 57) 22 rfl _ 5 i0 (.int .u8 0) 1 Try.underlying22 hi hz0 hz1 hz2 rfl _ _ _ rfl hown4 _ _ _ (yv ms) rfl hC (by simp) (Cs.to hr (by repeat (first | with_reducible exact Below.refl _ _ | with_reducible assumption | refine bgw ?_ (by first | (simp; done) | (simp; omega) | omega) _ | refine Below.setCell ?_ (by first | exact Nat.le_of_not_lt (by assumption) | (simp; done) | (simp; omega) | omega) _ | refine Below.alloc ?_ (by first | (simp; done) | (simp; omega) | omega) _ | refine Below.drew ?_))) (yv_one _) (by unfold maxLen; omega) (by omega) (by first | (simp; done) | (simp; omega) | omega) ?_; intro v9 w9 hown9 hb9; rw [← yv_append] at hown9; obtain ⟨q9, rfl⟩ := gw_of_below (Below.trans (below_gw _ _) hb9); obtain ⟨A4, cap4, rfl, hlen4, hle4, hmx4, hnil4, hcs4, -⟩ := str_of_row hown9; clear hown4 hown9 hb9 hmx4 hnil4 hlen4)
    | (go_at_call 15; refine Calls.mono (gw_at (r1 _ _ _ hle1 (Cs.to hcs1 (by repeat (first | with_reducible exact Below.refl _ _ | with_reducible assumption | refine bgw ?_ (by first | (simp; done) | (simp; omega) | omega) _ | refine Below.setCell ?_ (by first | exact Nat.le_of_not_lt (by assumption) | (simp; done) | (simp; omega) | omega) _ | refine Below.alloc ?_ (by first | (simp; done) | (simp; omega) | omega) _ | refine Below.drew ?_))))) ?_; rintro e w1 ⟨rfl, q, rfl⟩)
    | (go_at_call 16; refine Calls.mono (gw_at (r2 _ _ _ hle2 (Cs.to hcs2 (by repeat (first | with_reducible exact Below.refl _ _ | with_reducible assumption | refine bgw ?_ (by first | (simp; done) | (simp; omega) | omega) _ | refine Below.setCell ?_ (by first | exact Nat.le_of_not_lt (by assumption) | (simp; done) | (simp; omega) | omega) _ | refine Below.alloc ?_ (by first | (simp; done) | (simp; omega) | omega) _ | refine Below.drew ?_))))) ?_; rintro e w1 ⟨rfl, q, rfl⟩)
    | (go_at_call 17; refine Calls.mono (gw_ex (r3 _ _ _ hle3 (Cs.to hcs3 (by repeat (first | with_reducible exact Below.refl _ _ | with_reducible assumption | refine bgw ?_ (by first | (simp; done) | (simp; omega) | omega) _ | refine Below.setCell ?_ (by first | exact Nat.le_of_not_lt (by assumption) | (simp; done) | (simp; omega) | omega) _ | refine Below.alloc ?_ (by first | (simp; done) | (simp; omega) | omega) _ | refine Below.drew ?_))))) ?_; rintro e w1 ⟨⟨v8, rfl, hown8⟩, q8, rfl⟩; obtain ⟨A8, cap8, rfl, hle8, hmx8, hnil8, hcs8⟩ := owns_sl hown8)
    | (go_at_call 19; refine Calls.mono (gw_at (r4 _ _ _ hle4 (Cs.to hcs4 (by repeat (first | with_reducible exact Below.refl _ _ | with_reducible assumption | refine bgw ?_ (by first | (simp; done) | (simp; omega) | omega) _ | refine Below.setCell ?_ (by first | exact Nat.le_of_not_lt (by assumption) | (simp; done) | (simp; omega) | omega) _ | refine Below.alloc ?_ (by first | (simp; done) | (simp; omega) | omega) _ | refine Below.drew ?_))))) ?_; rintro e w1 ⟨rfl, q, rfl⟩)
    | (go_at_call 18; refine Calls.mono (gw_at (cI _ _ _ (Cs.to hcs8 (by repeat (first | with_reducible exact Below.refl _ _ | with_reducible assumption | refine bgw ?_ (by first | (simp; done) | (simp; omega) | omega) _ | refine Below.setCell ?_ (by first | exact Nat.le_of_not_lt (by assumption) | (simp; done) | (simp; omega) | omega) _ | refine Below.alloc ?_ (by first | (simp; done) | (simp; omega) | omega) _ | refine Below.drew ?_))) (Cs.to hq (by repeat (first | with_reducible exact Below.refl _ _ | with_reducible assumption | refine bgw ?_ (by first | (simp; done) | (simp; omega) | omega) _ | refine Below.setCell ?_ (by first | exact Nat.le_of_not_lt (by assumption) | (simp; done) | (simp; omega) | omega) _ | refine Below.alloc ?_ (by first | (simp; done) | (simp; omega) | omega) _ | refine Below.drew ?_))))) ?_; rintro e w1 ⟨rfl, q, rfl⟩)
    | (go_at_call 10; refine Calls.mono (gw_at (example7_b _)) ?_; rintro e w1 ⟨rfl, q, rfl⟩))
  go_ret
  exact ⟨rfl, (by repeat (first | with_reducible exact Below.refl _ _ | with_reducible assumption | refine bgw ?_ (by first | (simp; done) | (simp; omega) | omega) _ | refine Below.setCell ?_ (by first | exact Nat.le_of_not_lt (by assumption) | (simp; done) | (simp; omega) | omega) _ | refine Below.alloc ?_ (by first | (simp; done) | (simp; omega) | omega) _ | refine Below.drew ?_))⟩

end Go.Proofs.Ytgpcldhgkaddeaa
