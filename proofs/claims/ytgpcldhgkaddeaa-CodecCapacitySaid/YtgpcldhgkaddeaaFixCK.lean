/- The walk of chapter 7's statement on capacity: it returns true for every input, and nothing that existed has changed. No conditions. -/
import Derived.Test.YtgpcldhgkaddeaaFixCM
set_option linter.unusedVariables false
namespace Go.Proofs.Ytgpcldhgkaddeaa
open Go.RowKit By

/-- An own row of bytes, as a block that may be written. -/
theorem owns_row {w : World} {B n : Nat} {v : Value} {bs : List Int} (h : w.ownsRow B 5 1 v n (yv bs)) (hn : 0 < n) : ∃ g cap cur, v = .slice (some ⟨g, 0, none⟩) n cap ∧ B ≤ g ∧ n ≤ cap ∧ cap ≤ maxLen ∧ blk w g cur 5 ∧ ∀ j, j < n → ∃ y, cur[j]? = some (.int .u8 y) := by
  obtain ⟨hl, ⟨rfl, rfl⟩ | ⟨g, cap, cur, rfl, hb, hh, hnc, hm, hc, ht⟩⟩ := h
  · omega
  · refine ⟨g, cap, cur, rfl, hb, hnc, hm, hh, fun j hj => ?_⟩
    have hlen : bs.length = n := by simpa using hl
    have h1 : (cur.toList.take (n * 1))[j]? = some (.int .u8 (bs[j]'(by omega))) := by rw [ht]; simp [yv, show j < bs.length by omega]
    rw [List.getElem?_take] at h1
    split at h1
    · exact ⟨_, by simpa using h1⟩
    · cases h1
theorem str_extract (bs : List Int) (k : Nat) (hk : k ≤ bs.length) : (strOfNums bs).extract 0 k = strOfNums (bs.take k) := by
  apply ByteArray.ext
  rw [ByteArray.data_extract]
  simp [strOfNums, List.map_take]

set_option maxRecDepth 100000 in
set_option maxHeartbeats 8000000 in
theorem walk_CodecCapacity (A : Option Addr) (cap : Nat) (bs : List Int) (cut n : Int) (hB : isB bs) (hcut : IntKind.u16.has cut) (hn : i64 n) (w : World) (hp : Byts w A bs) (hl : bs.length ≤ cap) (hc : cap ≤ maxLen) (hA : A = none → cap = 0) : Calls Try.prog 8 #[.slice A bs.length cap, .int .u16 cut, .int .i64 n] w fun e w' => e = .returned (.bool true) ∧ Below w.heap.size w w' := by
  by_cases h2 : bs.length ≤ 2000
  rotate_left
  focus
    have cS : ∀ w', Calls Try.prog 9 #[.slice A bs.length cap, .string { data := #[] }, .slice none 0 0] w' fun e w'' => e = .returned (.bool false) ∧ Below w'.heap.size w' w'' := fun w' => small_no A none bs.length cap 0 0 { data := #[] } (by omega) w'
    go_enter Try.func8, Try.ntmps8
    go_wp2_with (first
      | (go_at_call 9; refine Calls.mono (gw_at (cS _)) ?_; rintro e w1 ⟨rfl, q, rfl⟩)
      | (go_at_call 10; refine Calls.mono (gw_at (example7_b _)) ?_; rintro e w1 ⟨rfl, q, rfl⟩))
    go_ret
    exact ⟨rfl, (by repeat (first | with_reducible exact Below.refl _ _ | with_reducible assumption | refine bgw ?_ (by first | (simp; done) | (simp; omega) | omega) _ | refine Below.setCell ?_ (by first | exact Nat.le_of_not_lt (by assumption) | (simp; done) | (simp; omega) | omega) _ | refine Below.alloc ?_ (by first | (simp; done) | (simp; omega) | omega) _ | refine Below.drew ?_))⟩
  have cS : ∀ w', Calls Try.prog 9 #[.slice A bs.length cap, .string { data := #[] }, .slice none 0 0] w' fun e w'' => e = .returned (.bool true) ∧ Below w'.heap.size w' w'' := fun w' => small_yes A none bs.length cap 0 0 { data := #[] } h2 (by decide) (by omega) w'
  have k0 : 0 ≤ cut := by have := hcut.1; simpa [IntKind.min, IntKind.bits, IntKind.signed] using this
  have hw : wrap64 cut = cut := by
    have := hcut.2; simp [IntKind.max, IntKind.bits, IntKind.signed] at this
    unfold wrap64; omega
  obtain ⟨k, hk, ek⟩ : ∃ k : Nat, k ≤ bs.length ∧ (wrap64 cut).tmod (↑bs.length + 1) = ↑k := by
    rw [hw, Int.tmod_eq_emod_of_nonneg k0]
    have g1 := Int.emod_nonneg cut (b := (bs.length : Int) + 1) (by omega)
    have g2 := Int.emod_lt_of_pos cut (b := (bs.length : Int) + 1) (by omega)
    exact ⟨(cut % ((bs.length : Int) + 1)).toNat, by omega, by omega⟩
  clear hw k0 hcut
  have m0 : (0 : Int) ≤ (k : Int) := by omega
  have m1 : (k : Int) ≤ (cap : Int) := by omega
  have m2 : (k : Int) ≤ (bs.length : Int) := by omega
  have hkl : (bs.take k).length = k := by rw [List.length_take]; omega
  have hpk : Byts w A (bs.take k) := Byts.take k hp
  obtain ⟨E1, hE1⟩ : ∃ E, (enc n).length = E := ⟨_, rfl⟩
  obtain ⟨E2, hE2⟩ : ∃ E, (encStr (nums { data := #[97, 98, 99] })).length = E := ⟨_, rfl⟩
  have hE1p : 1 ≤ E1 := by rw [← hE1]; exact enc_pos n
  have hE19 : E1 ≤ 9 := by rw [← hE1]; exact enc_le hn.1 hn.2
  have a1 : ∀ w', Below w.heap.size w w' → Calls Try.prog 11 #[.slice A k cap, .int .i64 n] w' fun e w'' => (∃ v, e = .returned v ∧ w''.ownsRow w'.heap.size 5 1 v (k + E1) (yv (bs.take k ++ enc n))) ∧ Below w'.heap.size w' w'' := fun w' hb => by
    have := xai_b A cap (bs.take k) n (by omega) hn hA w' (Cs.to hpk hb)
    rw [hkl, hE1] at this; exact this
  have a2 : ∀ w', Below w.heap.size w w' → Calls Try.prog 20 #[.slice A k cap, .string { data := #[97, 98, 99] }] w' fun e w'' => (∃ v, e = .returned v ∧ w''.ownsRow w'.heap.size 5 1 v (k + E2) (yv (bs.take k ++ encStr (nums { data := #[97, 98, 99] })))) ∧ Below w'.heap.size w' w'' := fun w' hb => by
    have := xas_b A cap (bs.take k) { data := #[97, 98, 99] } (by omega) (by decide) hA w' (Cs.to hpk hb)
    rw [hkl, hE2] at this; exact this
  have a3 : ∀ w', Below w.heap.size w w' → Calls Try.prog 12 #[.slice A k cap, .bool true] w' fun e w'' => (∃ v, e = .returned v ∧ w''.ownsRow w'.heap.size 5 1 v (k + 1) (yv (bs.take k ++ encBool true))) ∧ Below w'.heap.size w' w'' := fun w' hb => by
    have := xab_b A cap (bs.take k) true (by omega) hA w' (Cs.to hpk hb)
    rw [hkl] at this; exact this
  have a4 : ∀ (b : Nat) (t : TypeId) w', Below w.heap.size w w' → blk w' b #[.int .i64 n, .int .i64 n] t → Calls Try.prog 13 #[.slice A k cap, .slice (some ⟨b, 0, none⟩) 2 2] w' fun e w'' => (∃ v, e = .returned v ∧ w''.ownsRow w'.heap.size 5 1 v (k + (encInts [n, n]).length) (yv (bs.take k ++ encInts [n, n]))) ∧ Below w'.heap.size w' w'' := fun b t w' hb h => by
    have := xais_b A cap (bs.take k) (some ⟨b, 0, none⟩) 2 [n, n] (by omega) (by simp) (by simpa using hn) hA w' (Cs.to hpk hb) (Cs.of_list (xs := [.int .i64 n, .int .i64 n]) h)
    rw [hkl] at this; exact this
  have a5 : ∀ w', Below w.heap.size w w' → Calls Try.prog 14 #[.slice A k cap, .agg #[.int .i64 n, .int .i64 1]] w' fun e w'' => (∃ v, e = .returned v ∧ w''.ownsRow w'.heap.size 5 1 v (k + (enc n ++ enc 1).length) (yv (bs.take k ++ (enc n ++ enc 1)))) ∧ Below w'.heap.size w' w'' := fun w' hb => by
    have := xav_b A cap (bs.take k) n 1 (by omega) hn (by constructor <;> omega) hA w' (Cs.to hpk hb)
    rw [hkl] at this; exact this
  have hcw : ∀ w', Below w.heap.size w w' → (convert 22 9 (.slice A bs.length cap)).run Try.prog w' = .ok (.string (strOfNums bs)) w' := fun w' hb => str_run Try.underlying22 Try.underlying5 Try.underlying9 rfl hp hb
  have hss : (strOfNums bs).size = bs.length := strOfNums_size bs
  have hex := str_extract bs k hk
  have hcw0 : ∀ q, (convert 22 9 (.slice A bs.length cap)).run Try.prog (gw w q) = .ok (.string (strOfNums bs)) (gw w q) := fun q => hcw _ (below_gw w q)
  go_enter Try.func8, Try.ntmps8
  go_wp2_with (first
    | (go_at_call 9; refine Calls.mono (gw_at (cS _)) ?_; rintro e w1 ⟨rfl, q, rfl⟩)
    | (go_at_call 11; refine Calls.mono (gw_ex (a1 _ (by repeat (first | with_reducible exact Below.refl _ _ | with_reducible assumption | refine bgw ?_ (by first | (simp; done) | (simp; omega) | omega) _ | refine Below.setCell ?_ (by first | exact Nat.le_of_not_lt (by assumption) | (simp; done) | (simp; omega) | omega) _ | refine Below.alloc ?_ (by first | (simp; done) | (simp; omega) | omega) _ | refine Below.drew ?_)))) ?_; rintro e w1 ⟨⟨v1, rfl, hown1⟩, q1, rfl⟩; obtain ⟨g, gcap, cur, rfl, hg, hgn, hgm, hgb, hgc⟩ := owns_row hown1 (by omega))
    | (go_at_call 20; refine Calls.mono (gw_ex (a2 _ (by repeat (first | with_reducible exact Below.refl _ _ | with_reducible assumption | refine bgw ?_ (by first | (simp; done) | (simp; omega) | omega) _ | refine Below.setCell ?_ (by first | exact Nat.le_of_not_lt (by assumption) | (simp; done) | (simp; omega) | omega) _ | refine Below.alloc ?_ (by first | (simp; done) | (simp; omega) | omega) _ | refine Below.drew ?_)))) ?_; rintro e w1 ⟨⟨v2, rfl, hown2⟩, q2, rfl⟩; obtain ⟨A2, cap2, rfl, hlen2, hle2, hmx2, hnil2, hcs2, -⟩ := str_of_row hown2)
    | (go_at_call 12; refine Calls.mono (gw_ex (a3 _ (by repeat (first | with_reducible exact Below.refl _ _ | with_reducible assumption | refine bgw ?_ (by first | (simp; done) | (simp; omega) | omega) _ | refine Below.setCell ?_ (by first | exact Nat.le_of_not_lt (by assumption) | (simp; done) | (simp; omega) | omega) _ | refine Below.alloc ?_ (by first | (simp; done) | (simp; omega) | omega) _ | refine Below.drew ?_)))) ?_; rintro e w1 ⟨⟨v3, rfl, -⟩, q3, rfl⟩)
    | (go_at_call 13; refine Calls.mono (gw_ex (a4 _ _ _ (by repeat (first | with_reducible exact Below.refl _ _ | with_reducible assumption | refine bgw ?_ (by first | (simp; done) | (simp; omega) | omega) _ | refine Below.setCell ?_ (by first | exact Nat.le_of_not_lt (by assumption) | (simp; done) | (simp; omega) | omega) _ | refine Below.alloc ?_ (by first | (simp; done) | (simp; omega) | omega) _ | refine Below.drew ?_)) (by repeat (first | with_reducible exact blk_new _ _ _ | ((with_reducible refine blk_at ?_); (simp; done)) | with_reducible apply blk_alloc | with_reducible apply blk_gw)))) ?_; rintro e w1 ⟨⟨v4, rfl, -⟩, q4, rfl⟩)
    | (go_at_call 14; refine Calls.mono (gw_ex (a5 _ (by repeat (first | with_reducible exact Below.refl _ _ | with_reducible assumption | refine bgw ?_ (by first | (simp; done) | (simp; omega) | omega) _ | refine Below.setCell ?_ (by first | exact Nat.le_of_not_lt (by assumption) | (simp; done) | (simp; omega) | omega) _ | refine Below.alloc ?_ (by first | (simp; done) | (simp; omega) | omega) _ | refine Below.drew ?_)))) ?_; rintro e w1 ⟨⟨v5, rfl, -⟩, q5, rfl⟩))
  refine wp_named ?_
  intro W hW
  have hbW : Below w.heap.size w W := by rw [hW]; exact (by repeat (first | with_reducible exact Below.refl _ _ | with_reducible assumption | refine bgw ?_ (by first | (simp; done) | (simp; omega) | omega) _ | refine Below.setCell ?_ (by first | exact Nat.le_of_not_lt (by assumption) | (simp; done) | (simp; omega) | omega) _ | refine Below.alloc ?_ (by first | (simp; done) | (simp; omega) | omega) _ | refine Below.drew ?_))
  have hszW := hbW.size
  have hgW : blk W g cur 5 := by rw [hW]; exact (by apply blk_of; (repeat (first | with_reducible exact hgb | with_reducible apply blk_drew | with_reducible apply blk_gw | with_reducible apply blk_alloc | with_reducible apply blk_set | ((with_reducible apply blk_other); focus omega))); (first | rfl | simp))
  have hgw : w.heap.size ≤ g := by simp at hg; omega
  have hpc : Byts W A2 (bs.take k ++ encStr (nums { data := #[97, 98, 99] })) := by rw [hW]; exact Cs.to hcs2 (by repeat (first | with_reducible exact Below.refl _ _ | with_reducible assumption | refine bgw ?_ (by first | (simp; done) | (simp; omega) | omega) _ | refine Below.setCell ?_ (by first | exact Nat.le_of_not_lt (by assumption) | (simp; done) | (simp; omega) | omega) _ | refine Below.alloc ?_ (by first | (simp; done) | (simp; omega) | omega) _ | refine Below.drew ?_))
  have hcvA : ∀ p, (convert 22 9 (.slice A bs.length cap)).run Try.prog (gw W p) = .ok (.string (strOfNums bs)) (gw W p) := fun p => hcw _ (by repeat (first | with_reducible exact Below.refl _ _ | with_reducible assumption | refine bgw ?_ (by first | (simp; done) | (simp; omega) | omega) _ | refine Below.setCell ?_ (by first | exact Nat.le_of_not_lt (by assumption) | (simp; done) | (simp; omega) | omega) _ | refine Below.alloc ?_ (by first | (simp; done) | (simp; omega) | omega) _ | refine Below.drew ?_))
  have hcvC : ∀ p, (convert 22 9 (.slice A2 k cap2)).run Try.prog (gw W p) = .ok (.string (strOfNums (bs.take k))) (gw W p) := fun p => str_run Try.underlying22 Try.underlying5 Try.underlying9 hkl (by have := Byts.take k hpc; rwa [List.take_append_of_le_length (by omega), List.take_of_length_le (by omega)] at this) (below_gw W p)
  clear hW hcs2 hown1 hown2 hgb hpc
  have l1 : ¬ ((k : Int) + (E1 : Int)) ≤ (k : Int) := by omega
  have l2 : (k : Int) ≤ (cap2 : Int) := by omega
  refine wp_region_gw (by kernel_rfl) (by kernel_rfl) ?_
  repeat (go_big_quiet_step (fail))
  refine wpQuiet_nil ?_
  intro w1 hw1
  obtain ⟨q, rfl⟩ := hw1
  go_wp2_with fail
  refine wp_named ?_
  intro X hX
  have hbX : Below w.heap.size w X := by rw [hX]; exact (by repeat (first | with_reducible exact Below.refl _ _ | with_reducible assumption | refine bgw ?_ (by first | (simp; done) | (simp; omega) | omega) _ | refine Below.setCell ?_ (by first | exact Nat.le_of_not_lt (by assumption) | (simp; done) | (simp; omega) | omega) _ | refine Below.alloc ?_ (by first | (simp; done) | (simp; omega) | omega) _ | refine Below.drew ?_))
  have hgX : blk X g cur 5 := by rw [hX]; exact (by apply blk_of; (repeat (first | with_reducible exact hgW | with_reducible apply blk_drew | with_reducible apply blk_gw | with_reducible apply blk_alloc | with_reducible apply blk_set | ((with_reducible apply blk_other); focus omega))); (first | rfl | simp))
  clear hX hcvA hcvC hgW hbW hszW
  go_loopw [11] (fun i wr => ∃ j : Nat, j ≤ k + E1 ∧ i = .int .i64 j ∧ (∃ cs : Array Value, blk wr g cs 5 ∧ ∀ t, j ≤ t → t < k + E1 → ∃ y, cs[t]? = some (.int .u8 y)) ∧ Below w.heap.size w wr)
    (fun i _ => ((k : Int) + (E1 : Int) - intOf i).toNat)
  case atStart => exact ⟨0, by omega, rfl, ⟨cur, hgX, fun t _ ht => hgc t ht⟩, hbX⟩
  case round =>
    obtain ⟨j, hj, rfl, ⟨cs, hcs, hcy⟩, hbw⟩ := hrel
    have hsz := hbw.size
    by_cases hlt : j < k + E1
    · obtain ⟨y, hy⟩ := hcy j (Nat.le_refl _) hlt
      have i0 : (0 : Int) ≤ (j : Int) := by omega
      have i1 : (j : Int) < (k : Int) + (E1 : Int) := by omega
      have c1 : wr.cell? ⟨g, j, none⟩ = some (.int .u8 y) := (blk_cell hcs j).trans hy
      have c2 := blk_free hcs j
      have c3 := blk_older hcs
      clear hgc hcw hcw0
      go_wp2_with fail
      refine ⟨⟨j + 1, by omega, by go_num, ⟨_, blk_set hcs, fun t ht1 ht2 => ?_⟩, (by repeat (first | with_reducible exact Below.refl _ _ | with_reducible assumption | refine bgw ?_ (by first | (simp; done) | (simp; omega) | omega) _ | refine Below.setCell ?_ (by first | exact Nat.le_of_not_lt (by assumption) | (simp; done) | (simp; omega) | omega) _ | refine Below.alloc ?_ (by first | (simp; done) | (simp; omega) | omega) _ | refine Below.drew ?_))⟩, by (try go_num); simp [intOf]; (try omega)⟩
      rw [Array.getElem?_setIfInBounds_ne (by omega)]
      exact hcy t (by omega) ht2
    · obtain rfl : j = k + E1 := by omega
      have i1 : ¬ ((k : Int) + (E1 : Int)) < (k : Int) + (E1 : Int) := by omega
      have hz := hcw _ hbw
      clear hgc hcw hcw0
      go_wp2_with (go_at_call 10; refine Calls.mono (gw_at (example7_b _)) ?_; rintro e w1 ⟨rfl, q, rfl⟩)
      go_ret
      exact ⟨rfl, (by repeat (first | with_reducible exact Below.refl _ _ | with_reducible assumption | refine bgw ?_ (by first | (simp; done) | (simp; omega) | omega) _ | refine Below.setCell ?_ (by first | exact Nat.le_of_not_lt (by assumption) | (simp; done) | (simp; omega) | omega) _ | refine Below.alloc ?_ (by first | (simp; done) | (simp; omega) | omega) _ | refine Below.drew ?_))⟩

end Go.Proofs.Ytgpcldhgkaddeaa
