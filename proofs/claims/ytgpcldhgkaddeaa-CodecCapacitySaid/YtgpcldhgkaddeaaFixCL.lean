/- The contract of chapter 7's examples, and the walks of its statements: each returns true for every input, and nothing that existed has changed. No conditions. -/
import Derived.Test.YtgpcldhgkaddeaaFixCP
import Derived.Test.YtgpcldhgkaddeaaOp
set_option linter.unusedVariables false
namespace Go.Proofs.Ytgpcldhgkaddeaa
open Go.RowKit By

theorem small_b (A B : Option Addr) (n c m d : Nat) (s : ByteArray) (w : World) : Calls Try.prog 9 #[.slice A n c, .string s, .slice B m d] w fun e w' => e = .returned (.bool (decide (n ≤ 2000) && decide (s.size ≤ 500) && decide (m ≤ 100))) ∧ Below w.heap.size w w' := by
  by_cases h1 : n ≤ 2000 <;> by_cases h2 : s.size ≤ 500 <;> by_cases h3 : m ≤ 100
  all_goals
    rw [show (decide (n ≤ 2000) && decide (s.size ≤ 500) && decide (m ≤ 100)) = _ from by simp only [h1, h2, h3, decide_true, decide_false, Bool.and_true, Bool.and_false]; rfl]
    go_enter Try.func9, Try.ntmps9
    go_wp2_with fail
    all_goals (go_ret; refine ⟨?_, (by repeat (first | with_reducible exact Below.refl _ _ | with_reducible assumption | refine bgw ?_ (by first | (simp; done) | (simp; omega) | omega) _ | refine Below.setCell ?_ (by first | exact Nat.le_of_not_lt (by assumption) | (simp; done) | (simp; omega) | omega) _ | refine Below.alloc ?_ (by first | (simp; done) | (simp; omega) | omega) _ | refine Below.drew ?_))⟩; first | rfl | (simp; done) | (simp; omega) | (simp; rw [Bool.eq_iff_iff]; first | (simp; done) | (simp; omega)))

theorem rd7a : rdInt [9, 17, 1] 1 = (-1, 3, 0) := by decide +kernel
theorem rd7b : rdInt [1, 0] 0 = (0, 0, 3) := by decide +kernel
theorem enc7a : enc 258 = [2, 1, 2] := by decide +kernel
theorem enc7b : enc (-1) = [17, 1] := by decide +kernel
theorem enc7c : enc 0 = [0] := by decide +kernel

theorem ex7r1_b (b : Nat) (t : TypeId) (w : World) (h : blk w b #[.int .u8 9, .int .u8 17, .int .u8 1] t) : Calls Try.prog 15 #[.slice (some ⟨b, 0, none⟩) 3 3, .int .i64 1] w fun e w' => e = .returned (.tuple #[.int .i64 (-1), .int .i64 3, .int .i64 0]) ∧ Below w.heap.size w w' := by
  have := xri_b (some ⟨b, 0, none⟩) 3 [9, 17, 1] 1 (by intro x hx; simp at hx; omega) (by simp) (by simp) w (Cs.of_list (xs := [.int .u8 9, .int .u8 17, .int .u8 1]) h)
  rw [rd7a] at this
  exact this

theorem ex7r2_b (b : Nat) (t : TypeId) (w : World) (h : blk w b #[.int .u8 1, .int .u8 0] t) : Calls Try.prog 15 #[.slice (some ⟨b, 0, none⟩) 2 2, .int .i64 0] w fun e w' => e = .returned (.tuple #[.int .i64 0, .int .i64 0, .int .i64 3]) ∧ Below w.heap.size w w' := by
  have := xri_b (some ⟨b, 0, none⟩) 2 [1, 0] 0 (by intro x hx; simp at hx; omega) (by simp) (by simp) w (Cs.of_list (xs := [.int .u8 1, .int .u8 0]) h)
  rw [rd7b] at this
  exact this

/-- What an append leaves, as a string. -/
theorem str_of_row {w : World} {B n : Nat} {v : Value} {bs : List Int} (h : w.ownsRow B 5 1 v n (yv bs)) : ∃ A cap, v = .slice A n cap ∧ bs.length = n ∧ n ≤ cap ∧ cap ≤ maxLen ∧ (A = none → cap = 0) ∧ Byts w A bs ∧ ∀ w', Below w.heap.size w w' → (convert 22 9 (.slice A n cap)).run Try.prog w' = .ok (.string (strOfNums bs)) w' := by
  have hl : bs.length = n := by have := h.1; simpa using this
  obtain ⟨A, cap, rfl, h1, h2, h3, h4⟩ := owns_sl h
  exact ⟨A, cap, rfl, hl, h1, h2, h3, h4, fun w' hb => str_run Try.underlying22 Try.underlying5 Try.underlying9 hl h4 hb⟩

theorem ex7s_b (A : Option Addr) (cap : Nat) (bs : List Int) (n : Int) (L M : Nat) (str : ByteArray) (hL : bs.length = L) (hl : L ≤ 100000) (hn : i64 n) (hA : A = none → cap = 0) (hM : L + (enc n).length = M) (hs : strOfNums (bs ++ enc n) = str) (w : World) (hp : Byts w A bs) (hcap : L ≤ cap := by first | omega | decide) : Calls Try.prog 11 #[.slice A L cap, .int .i64 n] w fun e w' => (∃ A' cap', e = .returned (.slice A' M cap') ∧ ∀ w'', Below w'.heap.size w' w'' → (convert 22 9 (.slice A' M cap')).run Try.prog w'' = .ok (.string str) w'') ∧ Below w.heap.size w w' := by
  subst hL hM hs
  refine (xai_b A cap bs n (by omega) hn hA w hp).mono ?_
  rintro e w' ⟨⟨v, rfl, hown⟩, hb⟩
  obtain ⟨A', cap', rfl, -, -, -, -, -, h⟩ := str_of_row hown
  exact ⟨⟨A', cap', rfl, h⟩, hb⟩

theorem ex7a_b (w : World) : Calls Try.prog 11 #[.slice none 0 0, .int .i64 258] w fun e w' => (∃ A' cap', e = .returned (.slice A' 3 cap') ∧ ∀ w'', Below w'.heap.size w' w'' → (convert 22 9 (.slice A' 3 cap')).run Try.prog w'' = .ok (.string { data := #[2, 1, 2] }) w'') ∧ Below w.heap.size w w' :=
  ex7s_b none 0 [] 258 0 3 _ rfl (by simp) (by constructor <;> omega) (fun _ => rfl) (by rw [enc7a]; rfl) (by rw [enc7a]; rfl) w (.inl rfl)

theorem ex7b_b (b : Nat) (t : TypeId) (w : World) (h : blk w b #[.int .u8 5] t) : Calls Try.prog 11 #[.slice (some ⟨b, 0, none⟩) 1 1, .int .i64 (-1)] w fun e w' => (∃ A' cap', e = .returned (.slice A' 3 cap') ∧ ∀ w'', Below w'.heap.size w' w'' → (convert 22 9 (.slice A' 3 cap')).run Try.prog w'' = .ok (.string { data := #[5, 17, 1] }) w'') ∧ Below w.heap.size w w' :=
  ex7s_b (some ⟨b, 0, none⟩) 1 [5] (-1) 1 3 _ rfl (by simp) (by constructor <;> omega) (fun h => by cases h) (by rw [enc7b]; rfl) (by rw [enc7b]; rfl) w (Cs.of_list (xs := [.int .u8 5]) h)

theorem ex7c_b (w : World) : Calls Try.prog 11 #[.slice none 0 0, .int .i64 0] w fun e w' => (∃ A' cap', e = .returned (.slice A' 1 cap') ∧ ∀ w'', Below w'.heap.size w' w'' → (convert 22 9 (.slice A' 1 cap')).run Try.prog w'' = .ok (.string { data := #[0] }) w'') ∧ Below w.heap.size w w' :=
  ex7s_b none 0 [] 0 0 1 _ rfl (by simp) (by constructor <;> omega) (fun _ => rfl) (by rw [enc7c]; rfl) (by rw [enc7c]; rfl) w (.inl rfl)

theorem example7_b (w : World) : Calls Try.prog 10 #[] w fun e w' => e = .returned (.bool true) ∧ Below w.heap.size w w' := by
  go_enter Try.func10, Try.ntmps10
  go_wp2_with (first
    | (go_at_call 15; (with_reducible show Calls _ _ (#[Value.slice _ 3 _, _]) _ _); refine Calls.mono (gw_at (ex7r1_b _ _ _ (by repeat (first | with_reducible exact blk_new _ _ _ | ((with_reducible refine blk_at ?_); (simp; done)) | with_reducible apply blk_alloc | with_reducible apply blk_gw)))) ?_; rintro e w1 ⟨rfl, q, rfl⟩)
    | (go_at_call 15; refine Calls.mono (gw_at (ex7r2_b _ _ _ (by repeat (first | with_reducible exact blk_new _ _ _ | ((with_reducible refine blk_at ?_); (simp; done)) | with_reducible apply blk_alloc | with_reducible apply blk_gw)))) ?_; rintro e w1 ⟨rfl, q, rfl⟩)
    | (go_at_call 11; (with_reducible show Calls _ _ (#[_, Value.int .i64 258]) _ _); refine Calls.mono (gw_ex (ex7a_b _)) ?_; rintro e w1 ⟨⟨A1, c1, rfl, hcv1⟩, q1, rfl⟩; have hcv10 := hcv1 _ (Below.refl _ _))
    | (go_at_call 11; (with_reducible show Calls _ _ (#[_, Value.int .i64 (-1)]) _ _); refine Calls.mono (gw_ex (ex7b_b _ _ _ (by repeat (first | with_reducible exact blk_new _ _ _ | ((with_reducible refine blk_at ?_); (simp; done)) | with_reducible apply blk_alloc | with_reducible apply blk_gw)))) ?_; rintro e w1 ⟨⟨A2, c2, rfl, hcv2⟩, q2, rfl⟩; have hcv20 := hcv2 _ (Below.refl _ _))
    | (go_at_call 11; refine Calls.mono (gw_ex (ex7c_b _)) ?_; rintro e w1 ⟨⟨A3, c3, rfl, hcv3⟩, q3, rfl⟩; have hcv30 := hcv3 _ (Below.refl _ _)))
  go_ret
  exact ⟨rfl, (by repeat (first | with_reducible exact Below.refl _ _ | with_reducible assumption | refine bgw ?_ (by first | (simp; done) | (simp; omega) | omega) _ | refine Below.setCell ?_ (by first | exact Nat.le_of_not_lt (by assumption) | (simp; done) | (simp; omega) | omega) _ | refine Below.alloc ?_ (by first | (simp; done) | (simp; omega) | omega) _ | refine Below.drew ?_))⟩

theorem small_no (A B : Option Addr) (n c m d : Nat) (s : ByteArray) (h : ¬ (n ≤ 2000 ∧ s.size ≤ 500 ∧ m ≤ 100)) (w : World) : Calls Try.prog 9 #[.slice A n c, .string s, .slice B m d] w fun e w' => e = .returned (.bool false) ∧ Below w.heap.size w w' := by
  have := small_b A B n c m d s w
  rw [show (decide (n ≤ 2000) && decide (s.size ≤ 500) && decide (m ≤ 100)) = false from by rw [Bool.eq_false_iff]; simp only [ne_eq, Bool.and_eq_true, decide_eq_true_eq]; omega] at this
  exact this

theorem small_yes (A B : Option Addr) (n c m d : Nat) (s : ByteArray) (h1 : n ≤ 2000) (h2 : s.size ≤ 500) (h3 : m ≤ 100) (w : World) : Calls Try.prog 9 #[.slice A n c, .string s, .slice B m d] w fun e w' => e = .returned (.bool true) ∧ Below w.heap.size w w' := by
  have := small_b A B n c m d s w
  simp only [h1, h2, h3, decide_true, Bool.and_true] at this
  exact this

set_option maxHeartbeats 2000000 in
theorem walk_CodecScalars (A : Option Addr) (cap : Nat) (bs : List Int) (p : Int) (hB : isB bs) (w : World) (hp : Byts w A bs) (hl : bs.length ≤ cap) (hc : cap ≤ maxLen) : Calls Try.prog 5 #[.slice A bs.length cap, .int .i64 p] w fun e w' => e = .returned (.bool true) ∧ Below w.heap.size w w' := by
  by_cases hn : bs.length ≤ 2000
  rotate_left
  focus
    have cS : ∀ w', Calls Try.prog 9 #[.slice A bs.length cap, .string { data := #[] }, .slice none 0 0] w' fun e w'' => e = .returned (.bool false) ∧ Below w'.heap.size w' w'' := fun w' => small_no A none bs.length cap 0 0 { data := #[] } (by omega) w'
    go_enter Try.func5, Try.ntmps5
    go_wp2_with (first
      | (go_at_call 9; refine Calls.mono (gw_at (cS _)) ?_; rintro e w1 ⟨rfl, q, rfl⟩)
      | (go_at_call 10; refine Calls.mono (gw_at (example7_b _)) ?_; rintro e w1 ⟨rfl, q, rfl⟩))
    go_ret
    exact ⟨rfl, (by repeat (first | with_reducible exact Below.refl _ _ | with_reducible assumption | refine bgw ?_ (by first | (simp; done) | (simp; omega) | omega) _ | refine Below.setCell ?_ (by first | exact Nat.le_of_not_lt (by assumption) | (simp; done) | (simp; omega) | omega) _ | refine Below.alloc ?_ (by first | (simp; done) | (simp; omega) | omega) _ | refine Below.drew ?_))⟩
  have cS : ∀ w', Calls Try.prog 9 #[.slice A bs.length cap, .string { data := #[] }, .slice none 0 0] w' fun e w'' => e = .returned (.bool true) ∧ Below w'.heap.size w' w'' := fun w' => small_yes A none bs.length cap 0 0 { data := #[] } hn (by decide) (by omega) w'
  have c1 : ∀ w', Below w.heap.size w w' → Calls Try.prog 15 #[.slice A bs.length cap, .int .i64 p] w' fun e w'' => e = .returned (.tuple #[.int .i64 (rdInt bs p).1, .int .i64 (rdInt bs p).2.1, .int .i64 (rdInt bs p).2.2]) ∧ Below w'.heap.size w' w'' := fun w' hb => xri_b A cap bs p hB (by omega) hl w' (Cs.to hp hb)
  have c2 : ∀ w', Below w.heap.size w w' → Calls Try.prog 24 #[.slice A bs.length cap, .int .i64 p] w' fun e w'' => e = .returned (.tuple #[.int .i64 (rdInt bs p).1, .int .i64 (rdInt bs p).2.1, .int .i64 (rdInt bs p).2.2]) ∧ Below w'.heap.size w' w'' := fun w' hb => rri_b A cap bs p hB (by omega) w' (Cs.to hp hb)
  have c3 : ∀ w', Below w.heap.size w w' → Calls Try.prog 16 #[.slice A bs.length cap, .int .i64 p] w' fun e w'' => e = .returned (.tuple #[.bool (rdBool bs p).1, .int .i64 (rdBool bs p).2.1, .int .i64 (rdBool bs p).2.2]) ∧ Below w'.heap.size w' w'' := fun w' hb => xrb_b A cap bs p hB (by omega) hl w' (Cs.to hp hb)
  have c4 : ∀ w', Below w.heap.size w w' → Calls Try.prog 25 #[.slice A bs.length cap, .int .i64 p] w' fun e w'' => e = .returned (.tuple #[.bool (rdBool bs p).1, .int .i64 (rdBool bs p).2.1, .int .i64 (rdBool bs p).2.2]) ∧ Below w'.heap.size w' w'' := fun w' hb => rrb_b A cap bs p hB (by omega) w' (Cs.to hp hb)
  have c5 : ∀ w', Below w.heap.size w w' → Calls Try.prog 19 #[.slice A bs.length cap, .int .i64 p] w' fun e w'' => e = .returned (.tuple #[.agg #[.int .i64 (rdVec bs p).1.1, .int .i64 (rdVec bs p).1.2], .int .i64 (rdVec bs p).2.1, .int .i64 (rdVec bs p).2.2]) ∧ Below w'.heap.size w' w'' := fun w' hb => xrv_b A cap bs p hB (by omega) hl w' (Cs.to hp hb)
  have c6 : ∀ w', Below w.heap.size w w' → Calls Try.prog 26 #[.slice A bs.length cap, .int .i64 p] w' fun e w'' => e = .returned (.tuple #[.agg #[.int .i64 (rdVec bs p).1.1, .int .i64 (rdVec bs p).1.2], .int .i64 (rdVec bs p).2.1, .int .i64 (rdVec bs p).2.2]) ∧ Below w'.heap.size w' w'' := fun w' hb => rrv_b A cap bs p hB (by omega) w' (Cs.to hp hb)
  generalize rdInt bs p = r1 at *
  generalize rdBool bs p = r2 at *
  generalize rdVec bs p = r3 at *
  go_enter Try.func5, Try.ntmps5
  go_wp2_with (first
    | (go_at_call 9; refine Calls.mono (gw_at (cS _)) ?_; rintro e w1 ⟨rfl, q, rfl⟩)
    | (go_at_call 15; refine Calls.mono (gw_at (c1 _ (by repeat (first | with_reducible exact Below.refl _ _ | with_reducible assumption | refine bgw ?_ (by first | (simp; done) | (simp; omega) | omega) _ | refine Below.setCell ?_ (by first | exact Nat.le_of_not_lt (by assumption) | (simp; done) | (simp; omega) | omega) _ | refine Below.alloc ?_ (by first | (simp; done) | (simp; omega) | omega) _ | refine Below.drew ?_)))) ?_; rintro e w1 ⟨rfl, q, rfl⟩)
    | (go_at_call 24; refine Calls.mono (gw_at (c2 _ (by repeat (first | with_reducible exact Below.refl _ _ | with_reducible assumption | refine bgw ?_ (by first | (simp; done) | (simp; omega) | omega) _ | refine Below.setCell ?_ (by first | exact Nat.le_of_not_lt (by assumption) | (simp; done) | (simp; omega) | omega) _ | refine Below.alloc ?_ (by first | (simp; done) | (simp; omega) | omega) _ | refine Below.drew ?_)))) ?_; rintro e w1 ⟨rfl, q, rfl⟩)
    | (go_at_call 16; refine Calls.mono (gw_at (c3 _ (by repeat (first | with_reducible exact Below.refl _ _ | with_reducible assumption | refine bgw ?_ (by first | (simp; done) | (simp; omega) | omega) _ | refine Below.setCell ?_ (by first | exact Nat.le_of_not_lt (by assumption) | (simp; done) | (simp; omega) | omega) _ | refine Below.alloc ?_ (by first | (simp; done) | (simp; omega) | omega) _ | refine Below.drew ?_)))) ?_; rintro e w1 ⟨rfl, q, rfl⟩)
    | (go_at_call 25; refine Calls.mono (gw_at (c4 _ (by repeat (first | with_reducible exact Below.refl _ _ | with_reducible assumption | refine bgw ?_ (by first | (simp; done) | (simp; omega) | omega) _ | refine Below.setCell ?_ (by first | exact Nat.le_of_not_lt (by assumption) | (simp; done) | (simp; omega) | omega) _ | refine Below.alloc ?_ (by first | (simp; done) | (simp; omega) | omega) _ | refine Below.drew ?_)))) ?_; rintro e w1 ⟨rfl, q, rfl⟩)
    | (go_at_call 19; refine Calls.mono (gw_at (c5 _ (by repeat (first | with_reducible exact Below.refl _ _ | with_reducible assumption | refine bgw ?_ (by first | (simp; done) | (simp; omega) | omega) _ | refine Below.setCell ?_ (by first | exact Nat.le_of_not_lt (by assumption) | (simp; done) | (simp; omega) | omega) _ | refine Below.alloc ?_ (by first | (simp; done) | (simp; omega) | omega) _ | refine Below.drew ?_)))) ?_; rintro e w1 ⟨rfl, q, rfl⟩)
    | (go_at_call 26; refine Calls.mono (gw_at (c6 _ (by repeat (first | with_reducible exact Below.refl _ _ | with_reducible assumption | refine bgw ?_ (by first | (simp; done) | (simp; omega) | omega) _ | refine Below.setCell ?_ (by first | exact Nat.le_of_not_lt (by assumption) | (simp; done) | (simp; omega) | omega) _ | refine Below.alloc ?_ (by first | (simp; done) | (simp; omega) | omega) _ | refine Below.drew ?_)))) ?_; rintro e w1 ⟨rfl, q, rfl⟩)
    | (go_at_call 10; refine Calls.mono (gw_at (example7_b _)) ?_; rintro e w1 ⟨rfl, q, rfl⟩))
  go_ret
  exact ⟨rfl, (by repeat (first | with_reducible exact Below.refl _ _ | with_reducible assumption | refine bgw ?_ (by first | (simp; done) | (simp; omega) | omega) _ | refine Below.setCell ?_ (by first | exact Nat.le_of_not_lt (by assumption) | (simp; done) | (simp; omega) | omega) _ | refine Below.alloc ?_ (by first | (simp; done) | (simp; omega) | omega) _ | refine Below.drew ?_))⟩

set_option maxHeartbeats 4000000 in
theorem walk_CodecStrings (A : Option Addr) (cap : Nat) (bs : List Int) (s : ByteArray) (p most : Int) (hB : isB bs) (w : World) (hp : Byts w A bs) (hl : bs.length ≤ cap) (hc : cap ≤ maxLen) (hA : A = none → cap = 0) : Calls Try.prog 4 #[.slice A bs.length cap, .string s, .int .i64 p, .int .i64 most] w fun e w' => e = .returned (.bool true) ∧ Below w.heap.size w w' := by
  by_cases hn : bs.length ≤ 2000 ∧ s.size ≤ 500
  rotate_left
  focus
    have cS : ∀ w', Calls Try.prog 9 #[.slice A bs.length cap, .string s, .slice none 0 0] w' fun e w'' => e = .returned (.bool false) ∧ Below w'.heap.size w' w'' := fun w' => small_no A none bs.length cap 0 0 s (by omega) w'
    go_enter Try.func4, Try.ntmps4
    go_wp2_with (first
      | (go_at_call 9; refine Calls.mono (gw_at (cS _)) ?_; rintro e w1 ⟨rfl, q, rfl⟩)
      | (go_at_call 10; refine Calls.mono (gw_at (example7_b _)) ?_; rintro e w1 ⟨rfl, q, rfl⟩))
    go_ret
    exact ⟨rfl, (by repeat (first | with_reducible exact Below.refl _ _ | with_reducible assumption | refine bgw ?_ (by first | (simp; done) | (simp; omega) | omega) _ | refine Below.setCell ?_ (by first | exact Nat.le_of_not_lt (by assumption) | (simp; done) | (simp; omega) | omega) _ | refine Below.alloc ?_ (by first | (simp; done) | (simp; omega) | omega) _ | refine Below.drew ?_))⟩
  obtain ⟨hn, hs⟩ := hn
  have cS : ∀ w', Calls Try.prog 9 #[.slice A bs.length cap, .string s, .slice none 0 0] w' fun e w'' => e = .returned (.bool true) ∧ Below w'.heap.size w' w'' := fun w' => small_yes A none bs.length cap 0 0 s hn hs (by omega) w'
  have h9 := enc_le (n := (s.size : Int)) (by omega) (by omega)
  have hES : (encStr (nums s)).length = (enc (s.size : Int)).length + s.size := by simp [encStr]
  obtain ⟨E, hE⟩ : ∃ E, (encStr (nums s)).length = E := ⟨_, rfl⟩
  have cA : ∀ w', Below w.heap.size w w' → Calls Try.prog 20 #[.slice A bs.length cap, .string s] w' fun e w'' => (∃ v, e = .returned v ∧ w''.ownsRow w'.heap.size 5 1 v (bs.length + E) (yv (bs ++ encStr (nums s)))) ∧ Below w'.heap.size w' w'' := fun w' hb => hE ▸ xas_b A cap bs s (by omega) (by omega) hA w' (Cs.to hp hb)
  have cR : ∀ w', Below w.heap.size w w' → Calls Try.prog 23 #[.slice A bs.length cap, .string s] w' fun e w'' => (∃ v, e = .returned v ∧ w''.ownsRow w'.heap.size 5 1 v (bs.length + E) (yv (bs ++ encStr (nums s)))) ∧ Below w'.heap.size w' w'' := fun w' hb => hE ▸ ras_b A cap bs s (by omega) (by omega) hA w' (Cs.to hp hb)
  have c1 : ∀ w', Below w.heap.size w w' → Calls Try.prog 21 #[.slice A bs.length cap, .int .i64 p, .int .i64 most] w' fun e w'' => e = .returned (.tuple #[.string (strOfNums (rdStr bs p most).1), .int .i64 (rdStr bs p most).2.1, .int .i64 (rdStr bs p most).2.2]) ∧ Below w'.heap.size w' w'' := fun w' hb => xrs_b A cap bs p most hB (by omega) hl w' (Cs.to hp hb)
  have c2 : ∀ w', Below w.heap.size w w' → Calls Try.prog 22 #[.slice A bs.length cap, .int .i64 p, .int .i64 most] w' fun e w'' => e = .returned (.tuple #[.string (strOfNums (rdStr bs p most).1), .int .i64 (rdStr bs p most).2.1, .int .i64 (rdStr bs p most).2.2]) ∧ Below w'.heap.size w' w'' := fun w' hb => rrs_b A cap bs p most hB (by omega) hl w' (Cs.to hp hb)
  have hBE : isB (bs ++ encStr (nums s)) := isB_append hB (isB_append (enc_isB (by omega) (by simp; omega)) (nums_isB s))
  generalize rdStr bs p most = r at *
  by_cases hlong : max most 0 < (s.size : Int)
  focus
    have cB : ∀ (A' : Option Addr) (cap' : Nat) w', bs.length + E ≤ cap' → Byts w' A' (bs ++ encStr (nums s)) → Calls Try.prog 21 #[.slice A' (bs.length + E) cap', .int .i64 bs.length, .int .i64 most] w' fun e w'' => e = .returned (.tuple #[.string { data := #[] }, .int .i64 0, .int .i64 5]) ∧ Below w'.heap.size w' w'' := fun A' cap' w' hk hb => by
      have := xrs_b A' cap' (bs ++ encStr (nums s)) bs.length most hBE (by simp only [List.length_append]; omega) (by simp only [List.length_append]; omega) w' hb
      have e := rdStr_long (s := nums s) (by simp; omega) bs [] (most := most) (by simpa using hlong)
      rw [List.append_nil] at e
      rw [e, List.length_append, hE] at this
      exact this
    have f1 : (0 : Int) < (s.size : Int) := by omega
    have f2 : most < (s.size : Int) := by omega
    clear hlong
    by_cases hz : most < 0
    focus
      go_enter Try.func4, Try.ntmps4
      go_wp2_with (first
        | (go_at_call 9; refine Calls.mono (gw_at (cS _)) ?_; rintro e w1 ⟨rfl, q, rfl⟩)
        | (go_at_call 20; refine Calls.mono (gw_ex (cA _ (by repeat (first | with_reducible exact Below.refl _ _ | with_reducible assumption | refine bgw ?_ (by first | (simp; done) | (simp; omega) | omega) _ | refine Below.setCell ?_ (by first | exact Nat.le_of_not_lt (by assumption) | (simp; done) | (simp; omega) | omega) _ | refine Below.alloc ?_ (by first | (simp; done) | (simp; omega) | omega) _ | refine Below.drew ?_)))) ?_; rintro e w1 ⟨⟨v', rfl, hown⟩, q, rfl⟩; obtain ⟨A', cap', rfl, hlen', hle, hmx, hnil, hcs, hcv⟩ := str_of_row hown)
        | (go_at_call 21; (with_reducible show Calls _ _ (#[Value.slice A (List.length bs) cap, _, _]) _ _); refine Calls.mono (gw_at (c1 _ (by repeat (first | with_reducible exact Below.refl _ _ | with_reducible assumption | refine bgw ?_ (by first | (simp; done) | (simp; omega) | omega) _ | refine Below.setCell ?_ (by first | exact Nat.le_of_not_lt (by assumption) | (simp; done) | (simp; omega) | omega) _ | refine Below.alloc ?_ (by first | (simp; done) | (simp; omega) | omega) _ | refine Below.drew ?_)))) ?_; rintro e w1 ⟨rfl, q, rfl⟩)
        | (go_at_call 21; refine Calls.mono (gw_at (cB _ _ _ hle (Cs.to hcs (by repeat (first | with_reducible exact Below.refl _ _ | with_reducible assumption | refine bgw ?_ (by first | (simp; done) | (simp; omega) | omega) _ | refine Below.setCell ?_ (by first | exact Nat.le_of_not_lt (by assumption) | (simp; done) | (simp; omega) | omega) _ | refine Below.alloc ?_ (by first | (simp; done) | (simp; omega) | omega) _ | refine Below.drew ?_))))) ?_; rintro e w1 ⟨rfl, q, rfl⟩)
        | (go_at_call 22; refine Calls.mono (gw_at (c2 _ (by repeat (first | with_reducible exact Below.refl _ _ | with_reducible assumption | refine bgw ?_ (by first | (simp; done) | (simp; omega) | omega) _ | refine Below.setCell ?_ (by first | exact Nat.le_of_not_lt (by assumption) | (simp; done) | (simp; omega) | omega) _ | refine Below.alloc ?_ (by first | (simp; done) | (simp; omega) | omega) _ | refine Below.drew ?_)))) ?_; rintro e w1 ⟨rfl, q, rfl⟩))
      refine wp_named ?_
      intro W hW
      have hbW : Below w.heap.size w W := by rw [hW]; exact (by repeat (first | with_reducible exact Below.refl _ _ | with_reducible assumption | refine bgw ?_ (by first | (simp; done) | (simp; omega) | omega) _ | refine Below.setCell ?_ (by first | exact Nat.le_of_not_lt (by assumption) | (simp; done) | (simp; omega) | omega) _ | refine Below.alloc ?_ (by first | (simp; done) | (simp; omega) | omega) _ | refine Below.drew ?_))
      have hszW := hbW.size
      have hcvA : ∀ p, (convert 22 9 (.slice A' (bs.length + E) cap')).run Try.prog (gw W p) = .ok (.string (strOfNums (bs ++ encStr (nums s)))) (gw W p) := by intro p; rw [hW]; exact hcv _ (by repeat (first | with_reducible exact Below.refl _ _ | with_reducible assumption | refine bgw ?_ (by first | (simp; done) | (simp; omega) | omega) _ | refine Below.setCell ?_ (by first | exact Nat.le_of_not_lt (by assumption) | (simp; done) | (simp; omega) | omega) _ | refine Below.alloc ?_ (by first | (simp; done) | (simp; omega) | omega) _ | refine Below.drew ?_))
      clear hW hcs hcv hown
      refine wp_mix 26 [0, 0, 3, 7, 15, 15, 63, 127, 255, 511, 511, 2047, 4095, 8191, 16383, 32767, 16383, 16383, 212991, 475135, 1048575, 2097151, 4194303, 8388607, 16777215, 33554431] [19] [0, 1, 2, 3, 4, 5, 6, 7, 8, 9, 10, 11, 12, 13, 14, 15, 16, 17, 18, 19, 20, 21, 22, 23, 24, 25] (by kernel_rfl) (by kernel_rfl) ?_
      repeat (first | (refine mix_skip (by rfl) (by rfl) (by rfl) (by rfl) ?_) | (refine mix_early (by rfl) (by rfl) (by rfl) ?_; go_big_quiet_step (fail); with_reducible refine wpQuiet_nil ?_) | (refine mix_late (by rfl) (by rfl) (by rfl) ?_; go_big_quiet_step (fail); with_reducible refine wpQuiet_nil ?_) | (refine mix_call (by rfl) (by rfl) (by rfl) ?_; intro pM Qs hQs; go_wp2_with (first | (go_at_call 23; refine Calls.mono (gw_ex (cR _ (by repeat (first | with_reducible exact Below.refl _ _ | with_reducible assumption | refine bgw ?_ (by first | (simp; done) | (simp; omega) | omega) _ | refine Below.setCell ?_ (by first | exact Nat.le_of_not_lt (by assumption) | (simp; done) | (simp; omega) | omega) _ | refine Below.alloc ?_ (by first | (simp; done) | (simp; omega) | omega) _ | refine Below.drew ?_)))) ?_; rintro e w1 ⟨⟨v2, rfl, hown2⟩, q2, rfl⟩; obtain ⟨A2, cap2, rfl, hlen2, hle2, hmx2, hnil2, hcs2, hcv2⟩ := str_of_row hown2; have hcvB := fun p : Gw => hcv2 (gw _ p) (below_gw _ p)) | (go_at_call 10; refine Calls.mono (gw_at (example7_b _)) ?_; rintro e w1 ⟨rfl, q, rfl⟩)); refine hQs _ _ (by repeat (first | with_reducible exact Below.refl _ _ | with_reducible assumption | refine bgw ?_ (by first | (simp; done) | (simp; omega) | omega) _ | refine Below.setCell ?_ (by first | exact Nat.le_of_not_lt (by assumption) | (simp; done) | (simp; omega) | omega) _ | refine Below.alloc ?_ (by first | (simp; done) | (simp; omega) | omega) _ | refine Below.drew ?_)) ?_))
      refine mix_end ?_
      intro pE
      simp only [List.drop_succ_cons, List.drop_zero]
      go_wp2_with fail
      go_ret
      exact ⟨rfl, (by repeat (first | with_reducible exact Below.refl _ _ | with_reducible assumption | refine bgw ?_ (by first | (simp; done) | (simp; omega) | omega) _ | refine Below.setCell ?_ (by first | exact Nat.le_of_not_lt (by assumption) | (simp; done) | (simp; omega) | omega) _ | refine Below.alloc ?_ (by first | (simp; done) | (simp; omega) | omega) _ | refine Below.drew ?_))⟩
    go_enter Try.func4, Try.ntmps4
    go_wp2_with (first
      | (go_at_call 9; refine Calls.mono (gw_at (cS _)) ?_; rintro e w1 ⟨rfl, q, rfl⟩)
      | (go_at_call 20; refine Calls.mono (gw_ex (cA _ (by repeat (first | with_reducible exact Below.refl _ _ | with_reducible assumption | refine bgw ?_ (by first | (simp; done) | (simp; omega) | omega) _ | refine Below.setCell ?_ (by first | exact Nat.le_of_not_lt (by assumption) | (simp; done) | (simp; omega) | omega) _ | refine Below.alloc ?_ (by first | (simp; done) | (simp; omega) | omega) _ | refine Below.drew ?_)))) ?_; rintro e w1 ⟨⟨v', rfl, hown⟩, q, rfl⟩; obtain ⟨A', cap', rfl, hlen', hle, hmx, hnil, hcs, hcv⟩ := str_of_row hown)
      | (go_at_call 21; (with_reducible show Calls _ _ (#[Value.slice A (List.length bs) cap, _, _]) _ _); refine Calls.mono (gw_at (c1 _ (by repeat (first | with_reducible exact Below.refl _ _ | with_reducible assumption | refine bgw ?_ (by first | (simp; done) | (simp; omega) | omega) _ | refine Below.setCell ?_ (by first | exact Nat.le_of_not_lt (by assumption) | (simp; done) | (simp; omega) | omega) _ | refine Below.alloc ?_ (by first | (simp; done) | (simp; omega) | omega) _ | refine Below.drew ?_)))) ?_; rintro e w1 ⟨rfl, q, rfl⟩)
      | (go_at_call 21; refine Calls.mono (gw_at (cB _ _ _ hle (Cs.to hcs (by repeat (first | with_reducible exact Below.refl _ _ | with_reducible assumption | refine bgw ?_ (by first | (simp; done) | (simp; omega) | omega) _ | refine Below.setCell ?_ (by first | exact Nat.le_of_not_lt (by assumption) | (simp; done) | (simp; omega) | omega) _ | refine Below.alloc ?_ (by first | (simp; done) | (simp; omega) | omega) _ | refine Below.drew ?_))))) ?_; rintro e w1 ⟨rfl, q, rfl⟩)
      | (go_at_call 22; refine Calls.mono (gw_at (c2 _ (by repeat (first | with_reducible exact Below.refl _ _ | with_reducible assumption | refine bgw ?_ (by first | (simp; done) | (simp; omega) | omega) _ | refine Below.setCell ?_ (by first | exact Nat.le_of_not_lt (by assumption) | (simp; done) | (simp; omega) | omega) _ | refine Below.alloc ?_ (by first | (simp; done) | (simp; omega) | omega) _ | refine Below.drew ?_)))) ?_; rintro e w1 ⟨rfl, q, rfl⟩))
    refine wp_named ?_
    intro W hW
    have hbW : Below w.heap.size w W := by rw [hW]; exact (by repeat (first | with_reducible exact Below.refl _ _ | with_reducible assumption | refine bgw ?_ (by first | (simp; done) | (simp; omega) | omega) _ | refine Below.setCell ?_ (by first | exact Nat.le_of_not_lt (by assumption) | (simp; done) | (simp; omega) | omega) _ | refine Below.alloc ?_ (by first | (simp; done) | (simp; omega) | omega) _ | refine Below.drew ?_))
    have hszW := hbW.size
    have hcvA : ∀ p, (convert 22 9 (.slice A' (bs.length + E) cap')).run Try.prog (gw W p) = .ok (.string (strOfNums (bs ++ encStr (nums s)))) (gw W p) := by intro p; rw [hW]; exact hcv _ (by repeat (first | with_reducible exact Below.refl _ _ | with_reducible assumption | refine bgw ?_ (by first | (simp; done) | (simp; omega) | omega) _ | refine Below.setCell ?_ (by first | exact Nat.le_of_not_lt (by assumption) | (simp; done) | (simp; omega) | omega) _ | refine Below.alloc ?_ (by first | (simp; done) | (simp; omega) | omega) _ | refine Below.drew ?_))
    clear hW hcs hcv hown
    refine wp_mix 26 [0, 0, 3, 7, 15, 15, 63, 127, 255, 511, 511, 2047, 4095, 8191, 16383, 32767, 16383, 16383, 212991, 475135, 1048575, 2097151, 4194303, 8388607, 16777215, 33554431] [19] [0, 1, 2, 3, 4, 5, 6, 7, 8, 9, 10, 11, 12, 13, 14, 15, 16, 17, 18, 19, 20, 21, 22, 23, 24, 25] (by kernel_rfl) (by kernel_rfl) ?_
    repeat (first | (refine mix_skip (by rfl) (by rfl) (by rfl) (by rfl) ?_) | (refine mix_early (by rfl) (by rfl) (by rfl) ?_; go_big_quiet_step (fail); with_reducible refine wpQuiet_nil ?_) | (refine mix_late (by rfl) (by rfl) (by rfl) ?_; go_big_quiet_step (fail); with_reducible refine wpQuiet_nil ?_) | (refine mix_call (by rfl) (by rfl) (by rfl) ?_; intro pM Qs hQs; go_wp2_with (first | (go_at_call 23; refine Calls.mono (gw_ex (cR _ (by repeat (first | with_reducible exact Below.refl _ _ | with_reducible assumption | refine bgw ?_ (by first | (simp; done) | (simp; omega) | omega) _ | refine Below.setCell ?_ (by first | exact Nat.le_of_not_lt (by assumption) | (simp; done) | (simp; omega) | omega) _ | refine Below.alloc ?_ (by first | (simp; done) | (simp; omega) | omega) _ | refine Below.drew ?_)))) ?_; rintro e w1 ⟨⟨v2, rfl, hown2⟩, q2, rfl⟩; obtain ⟨A2, cap2, rfl, hlen2, hle2, hmx2, hnil2, hcs2, hcv2⟩ := str_of_row hown2; have hcvB := fun p : Gw => hcv2 (gw _ p) (below_gw _ p)) | (go_at_call 10; refine Calls.mono (gw_at (example7_b _)) ?_; rintro e w1 ⟨rfl, q, rfl⟩)); refine hQs _ _ (by repeat (first | with_reducible exact Below.refl _ _ | with_reducible assumption | refine bgw ?_ (by first | (simp; done) | (simp; omega) | omega) _ | refine Below.setCell ?_ (by first | exact Nat.le_of_not_lt (by assumption) | (simp; done) | (simp; omega) | omega) _ | refine Below.alloc ?_ (by first | (simp; done) | (simp; omega) | omega) _ | refine Below.drew ?_)) ?_))
    refine mix_end ?_
    intro pE
    simp only [List.drop_succ_cons, List.drop_zero]
    go_wp2_with fail
    go_ret
    exact ⟨rfl, (by repeat (first | with_reducible exact Below.refl _ _ | with_reducible assumption | refine bgw ?_ (by first | (simp; done) | (simp; omega) | omega) _ | refine Below.setCell ?_ (by first | exact Nat.le_of_not_lt (by assumption) | (simp; done) | (simp; omega) | omega) _ | refine Below.alloc ?_ (by first | (simp; done) | (simp; omega) | omega) _ | refine Below.drew ?_))⟩
  have cB : ∀ (A' : Option Addr) (cap' : Nat) w', bs.length + E ≤ cap' → Byts w' A' (bs ++ encStr (nums s)) → Calls Try.prog 21 #[.slice A' (bs.length + E) cap', .int .i64 bs.length, .int .i64 most] w' fun e w'' => e = .returned (.tuple #[.string s, .int .i64 ((bs.length : Int) + E), .int .i64 0]) ∧ Below w'.heap.size w' w'' := fun A' cap' w' hk hb => by
    have := xrs_b A' cap' (bs ++ encStr (nums s)) bs.length most hBE (by simp only [List.length_append]; omega) (by simp only [List.length_append]; omega) w' hb
    have e := rdStr_enc (s := nums s) (by simp; omega) bs [] (most := most) (by simp; omega)
    rw [List.append_nil] at e
    rw [e, List.length_append, hE, of_nums] at this
    exact this
  by_cases hz : most < 0
  focus
    have f1 : ¬ (0 : Int) < (s.size : Int) := by omega
    clear hlong
    go_enter Try.func4, Try.ntmps4
    go_wp2_with (first
      | (go_at_call 9; refine Calls.mono (gw_at (cS _)) ?_; rintro e w1 ⟨rfl, q, rfl⟩)
      | (go_at_call 20; refine Calls.mono (gw_ex (cA _ (by repeat (first | with_reducible exact Below.refl _ _ | with_reducible assumption | refine bgw ?_ (by first | (simp; done) | (simp; omega) | omega) _ | refine Below.setCell ?_ (by first | exact Nat.le_of_not_lt (by assumption) | (simp; done) | (simp; omega) | omega) _ | refine Below.alloc ?_ (by first | (simp; done) | (simp; omega) | omega) _ | refine Below.drew ?_)))) ?_; rintro e w1 ⟨⟨v', rfl, hown⟩, q, rfl⟩; obtain ⟨A', cap', rfl, hlen', hle, hmx, hnil, hcs, hcv⟩ := str_of_row hown)
      | (go_at_call 21; (with_reducible show Calls _ _ (#[Value.slice A (List.length bs) cap, _, _]) _ _); refine Calls.mono (gw_at (c1 _ (by repeat (first | with_reducible exact Below.refl _ _ | with_reducible assumption | refine bgw ?_ (by first | (simp; done) | (simp; omega) | omega) _ | refine Below.setCell ?_ (by first | exact Nat.le_of_not_lt (by assumption) | (simp; done) | (simp; omega) | omega) _ | refine Below.alloc ?_ (by first | (simp; done) | (simp; omega) | omega) _ | refine Below.drew ?_)))) ?_; rintro e w1 ⟨rfl, q, rfl⟩)
      | (go_at_call 21; refine Calls.mono (gw_at (cB _ _ _ hle (Cs.to hcs (by repeat (first | with_reducible exact Below.refl _ _ | with_reducible assumption | refine bgw ?_ (by first | (simp; done) | (simp; omega) | omega) _ | refine Below.setCell ?_ (by first | exact Nat.le_of_not_lt (by assumption) | (simp; done) | (simp; omega) | omega) _ | refine Below.alloc ?_ (by first | (simp; done) | (simp; omega) | omega) _ | refine Below.drew ?_))))) ?_; rintro e w1 ⟨rfl, q, rfl⟩)
      | (go_at_call 22; refine Calls.mono (gw_at (c2 _ (by repeat (first | with_reducible exact Below.refl _ _ | with_reducible assumption | refine bgw ?_ (by first | (simp; done) | (simp; omega) | omega) _ | refine Below.setCell ?_ (by first | exact Nat.le_of_not_lt (by assumption) | (simp; done) | (simp; omega) | omega) _ | refine Below.alloc ?_ (by first | (simp; done) | (simp; omega) | omega) _ | refine Below.drew ?_)))) ?_; rintro e w1 ⟨rfl, q, rfl⟩))
    refine wp_named ?_
    intro W hW
    have hbW : Below w.heap.size w W := by rw [hW]; exact (by repeat (first | with_reducible exact Below.refl _ _ | with_reducible assumption | refine bgw ?_ (by first | (simp; done) | (simp; omega) | omega) _ | refine Below.setCell ?_ (by first | exact Nat.le_of_not_lt (by assumption) | (simp; done) | (simp; omega) | omega) _ | refine Below.alloc ?_ (by first | (simp; done) | (simp; omega) | omega) _ | refine Below.drew ?_))
    have hszW := hbW.size
    have hcvA : ∀ p, (convert 22 9 (.slice A' (bs.length + E) cap')).run Try.prog (gw W p) = .ok (.string (strOfNums (bs ++ encStr (nums s)))) (gw W p) := by intro p; rw [hW]; exact hcv _ (by repeat (first | with_reducible exact Below.refl _ _ | with_reducible assumption | refine bgw ?_ (by first | (simp; done) | (simp; omega) | omega) _ | refine Below.setCell ?_ (by first | exact Nat.le_of_not_lt (by assumption) | (simp; done) | (simp; omega) | omega) _ | refine Below.alloc ?_ (by first | (simp; done) | (simp; omega) | omega) _ | refine Below.drew ?_))
    clear hW hcs hcv hown
    refine wp_mix 26 [0, 0, 3, 7, 15, 15, 63, 127, 255, 511, 511, 2047, 4095, 8191, 16383, 32767, 16383, 16383, 212991, 475135, 1048575, 2097151, 4194303, 8388607, 16777215, 33554431] [19] [0, 1, 2, 3, 4, 5, 6, 7, 8, 9, 10, 11, 12, 13, 14, 15, 16, 17, 18, 19, 20, 21, 22, 23, 24, 25] (by kernel_rfl) (by kernel_rfl) ?_
    repeat (first | (refine mix_skip (by rfl) (by rfl) (by rfl) (by rfl) ?_) | (refine mix_early (by rfl) (by rfl) (by rfl) ?_; go_big_quiet_step (fail); with_reducible refine wpQuiet_nil ?_) | (refine mix_late (by rfl) (by rfl) (by rfl) ?_; go_big_quiet_step (fail); with_reducible refine wpQuiet_nil ?_) | (refine mix_call (by rfl) (by rfl) (by rfl) ?_; intro pM Qs hQs; go_wp2_with (first | (go_at_call 23; refine Calls.mono (gw_ex (cR _ (by repeat (first | with_reducible exact Below.refl _ _ | with_reducible assumption | refine bgw ?_ (by first | (simp; done) | (simp; omega) | omega) _ | refine Below.setCell ?_ (by first | exact Nat.le_of_not_lt (by assumption) | (simp; done) | (simp; omega) | omega) _ | refine Below.alloc ?_ (by first | (simp; done) | (simp; omega) | omega) _ | refine Below.drew ?_)))) ?_; rintro e w1 ⟨⟨v2, rfl, hown2⟩, q2, rfl⟩; obtain ⟨A2, cap2, rfl, hlen2, hle2, hmx2, hnil2, hcs2, hcv2⟩ := str_of_row hown2; have hcvB := fun p : Gw => hcv2 (gw _ p) (below_gw _ p)) | (go_at_call 10; refine Calls.mono (gw_at (example7_b _)) ?_; rintro e w1 ⟨rfl, q, rfl⟩)); refine hQs _ _ (by repeat (first | with_reducible exact Below.refl _ _ | with_reducible assumption | refine bgw ?_ (by first | (simp; done) | (simp; omega) | omega) _ | refine Below.setCell ?_ (by first | exact Nat.le_of_not_lt (by assumption) | (simp; done) | (simp; omega) | omega) _ | refine Below.alloc ?_ (by first | (simp; done) | (simp; omega) | omega) _ | refine Below.drew ?_)) ?_))
    refine mix_end ?_
    intro pE
    simp only [List.drop_succ_cons, List.drop_zero]
    go_wp2_with fail
    go_ret
    exact ⟨rfl, (by repeat (first | with_reducible exact Below.refl _ _ | with_reducible assumption | refine bgw ?_ (by first | (simp; done) | (simp; omega) | omega) _ | refine Below.setCell ?_ (by first | exact Nat.le_of_not_lt (by assumption) | (simp; done) | (simp; omega) | omega) _ | refine Below.alloc ?_ (by first | (simp; done) | (simp; omega) | omega) _ | refine Below.drew ?_))⟩
  focus
    have f1 : ¬ most < (s.size : Int) := by omega
    clear hlong
    go_enter Try.func4, Try.ntmps4
    go_wp2_with (first
      | (go_at_call 9; refine Calls.mono (gw_at (cS _)) ?_; rintro e w1 ⟨rfl, q, rfl⟩)
      | (go_at_call 20; refine Calls.mono (gw_ex (cA _ (by repeat (first | with_reducible exact Below.refl _ _ | with_reducible assumption | refine bgw ?_ (by first | (simp; done) | (simp; omega) | omega) _ | refine Below.setCell ?_ (by first | exact Nat.le_of_not_lt (by assumption) | (simp; done) | (simp; omega) | omega) _ | refine Below.alloc ?_ (by first | (simp; done) | (simp; omega) | omega) _ | refine Below.drew ?_)))) ?_; rintro e w1 ⟨⟨v', rfl, hown⟩, q, rfl⟩; obtain ⟨A', cap', rfl, hlen', hle, hmx, hnil, hcs, hcv⟩ := str_of_row hown)
      | (go_at_call 21; (with_reducible show Calls _ _ (#[Value.slice A (List.length bs) cap, _, _]) _ _); refine Calls.mono (gw_at (c1 _ (by repeat (first | with_reducible exact Below.refl _ _ | with_reducible assumption | refine bgw ?_ (by first | (simp; done) | (simp; omega) | omega) _ | refine Below.setCell ?_ (by first | exact Nat.le_of_not_lt (by assumption) | (simp; done) | (simp; omega) | omega) _ | refine Below.alloc ?_ (by first | (simp; done) | (simp; omega) | omega) _ | refine Below.drew ?_)))) ?_; rintro e w1 ⟨rfl, q, rfl⟩)
      | (go_at_call 21; refine Calls.mono (gw_at (cB _ _ _ hle (Cs.to hcs (by repeat (first | with_reducible exact Below.refl _ _ | with_reducible assumption | refine bgw ?_ (by first | (simp; done) | (simp; omega) | omega) _ | refine Below.setCell ?_ (by first | exact Nat.le_of_not_lt (by assumption) | (simp; done) | (simp; omega) | omega) _ | refine Below.alloc ?_ (by first | (simp; done) | (simp; omega) | omega) _ | refine Below.drew ?_))))) ?_; rintro e w1 ⟨rfl, q, rfl⟩)
      | (go_at_call 22; refine Calls.mono (gw_at (c2 _ (by repeat (first | with_reducible exact Below.refl _ _ | with_reducible assumption | refine bgw ?_ (by first | (simp; done) | (simp; omega) | omega) _ | refine Below.setCell ?_ (by first | exact Nat.le_of_not_lt (by assumption) | (simp; done) | (simp; omega) | omega) _ | refine Below.alloc ?_ (by first | (simp; done) | (simp; omega) | omega) _ | refine Below.drew ?_)))) ?_; rintro e w1 ⟨rfl, q, rfl⟩))
    refine wp_named ?_
    intro W hW
    have hbW : Below w.heap.size w W := by rw [hW]; exact (by repeat (first | with_reducible exact Below.refl _ _ | with_reducible assumption | refine bgw ?_ (by first | (simp; done) | (simp; omega) | omega) _ | refine Below.setCell ?_ (by first | exact Nat.le_of_not_lt (by assumption) | (simp; done) | (simp; omega) | omega) _ | refine Below.alloc ?_ (by first | (simp; done) | (simp; omega) | omega) _ | refine Below.drew ?_))
    have hszW := hbW.size
    have hcvA : ∀ p, (convert 22 9 (.slice A' (bs.length + E) cap')).run Try.prog (gw W p) = .ok (.string (strOfNums (bs ++ encStr (nums s)))) (gw W p) := by intro p; rw [hW]; exact hcv _ (by repeat (first | with_reducible exact Below.refl _ _ | with_reducible assumption | refine bgw ?_ (by first | (simp; done) | (simp; omega) | omega) _ | refine Below.setCell ?_ (by first | exact Nat.le_of_not_lt (by assumption) | (simp; done) | (simp; omega) | omega) _ | refine Below.alloc ?_ (by first | (simp; done) | (simp; omega) | omega) _ | refine Below.drew ?_))
    clear hW hcs hcv hown
    refine wp_mix 26 [0, 0, 3, 7, 15, 15, 63, 127, 255, 511, 511, 2047, 4095, 8191, 16383, 32767, 16383, 16383, 212991, 475135, 1048575, 2097151, 4194303, 8388607, 16777215, 33554431] [19] [0, 1, 2, 3, 4, 5, 6, 7, 8, 9, 10, 11, 12, 13, 14, 15, 16, 17, 18, 19, 20, 21, 22, 23, 24, 25] (by kernel_rfl) (by kernel_rfl) ?_
    repeat (first | (refine mix_skip (by rfl) (by rfl) (by rfl) (by rfl) ?_) | (refine mix_early (by rfl) (by rfl) (by rfl) ?_; go_big_quiet_step (fail); with_reducible refine wpQuiet_nil ?_) | (refine mix_late (by rfl) (by rfl) (by rfl) ?_; go_big_quiet_step (fail); with_reducible refine wpQuiet_nil ?_) | (refine mix_call (by rfl) (by rfl) (by rfl) ?_; intro pM Qs hQs; go_wp2_with (first | (go_at_call 23; refine Calls.mono (gw_ex (cR _ (by repeat (first | with_reducible exact Below.refl _ _ | with_reducible assumption | refine bgw ?_ (by first | (simp; done) | (simp; omega) | omega) _ | refine Below.setCell ?_ (by first | exact Nat.le_of_not_lt (by assumption) | (simp; done) | (simp; omega) | omega) _ | refine Below.alloc ?_ (by first | (simp; done) | (simp; omega) | omega) _ | refine Below.drew ?_)))) ?_; rintro e w1 ⟨⟨v2, rfl, hown2⟩, q2, rfl⟩; obtain ⟨A2, cap2, rfl, hlen2, hle2, hmx2, hnil2, hcs2, hcv2⟩ := str_of_row hown2; have hcvB := fun p : Gw => hcv2 (gw _ p) (below_gw _ p)) | (go_at_call 10; refine Calls.mono (gw_at (example7_b _)) ?_; rintro e w1 ⟨rfl, q, rfl⟩)); refine hQs _ _ (by repeat (first | with_reducible exact Below.refl _ _ | with_reducible assumption | refine bgw ?_ (by first | (simp; done) | (simp; omega) | omega) _ | refine Below.setCell ?_ (by first | exact Nat.le_of_not_lt (by assumption) | (simp; done) | (simp; omega) | omega) _ | refine Below.alloc ?_ (by first | (simp; done) | (simp; omega) | omega) _ | refine Below.drew ?_)) ?_))
    refine mix_end ?_
    intro pE
    simp only [List.drop_succ_cons, List.drop_zero]
    go_wp2_with fail
    go_ret
    exact ⟨rfl, (by repeat (first | with_reducible exact Below.refl _ _ | with_reducible assumption | refine bgw ?_ (by first | (simp; done) | (simp; omega) | omega) _ | refine Below.setCell ?_ (by first | exact Nat.le_of_not_lt (by assumption) | (simp; done) | (simp; omega) | omega) _ | refine Below.alloc ?_ (by first | (simp; done) | (simp; omega) | omega) _ | refine Below.drew ?_))⟩

end Go.Proofs.Ytgpcldhgkaddeaa
