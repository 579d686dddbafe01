/- The walks of chapter 9's stage theorem and of its statement of exact values: each returns true for every input, and nothing that existed has changed. No conditions. -/
import Derived.Test.YtmdnbmekbhljkaaFixKL
set_option linter.unusedVariables false
namespace Go.Proofs.Ytmdnbmekbhljkaa
open Go.RowKit Ck

set_option maxHeartbeats 4000000 in
theorem walk_ChecksumSeal (A : Option Addr) (cap : Nat) (bs : List Int) (hB : isB bs) (w : World) (hp : Byts w A bs) (hl : bs.length ≤ cap) (hc : cap ≤ maxLen) (hA : A = none → cap = 0) : Calls Try.prog 3 #[.slice A bs.length cap] w fun e w' => e = .returned (.bool true) ∧ Below w.heap.size w w' := by
  by_cases h1 : 400 < bs.length
  focus
    have h1' : (400 : Int) < (bs.length : Int) := by omega
    go_enter Try.func3, Try.ntmps3
    go_wp2_with (go_at_call 9; refine Calls.mono (gw_at (example9_b _)) ?_; rintro e w1 ⟨rfl, q, rfl⟩)
    go_ret
    exact ⟨rfl, (by repeat (first | with_reducible exact Below.refl _ _ | with_reducible assumption | refine bgw ?_ (by first | (simp; done) | (simp; omega) | omega) _ | refine Below.setCell ?_ (by first | exact Nat.le_of_not_lt (by assumption) | (simp; done) | (simp; omega) | omega) _ | refine Below.alloc ?_ (by first | (simp; done) | (simp; omega) | omega) _ | refine Below.drew ?_))⟩
  have h1' : ¬ (400 : Int) < (bs.length : Int) := by omega
  have cS := fun w' => fun hb : Byts w' A bs => seal_row (xsea_b A cap bs bs.length rfl hB (by omega) hl hA w' hb)
  have cO : ∀ (A1 : Option Addr) (k1 : Nat) w', bs.length + 4 ≤ k1 → (A1 = none → k1 = 0) → Byts w' A1 (sea bs) → Calls Try.prog 11 #[.slice A1 (bs.length + 4) k1] w' fun e w'' => (∃ A' cap', e = .returned (.tuple #[.slice A' bs.length cap', .int .i64 0]) ∧ bs.length ≤ cap' ∧ cap' ≤ maxLen ∧ (A' = none → cap' = 0) ∧ Byts w'' A' bs) ∧ Below w'.heap.size w' w'' := fun A1 k1 w' g1 g2 hb => by
    have := open_row (xopn_b A1 k1 (sea bs) (bs.length + 4) (sea_length bs) (sea_isB hB) (by omega) g1 g2 w' hb)
    rw [opn_sea] at this; exact this
  have cT : ∀ (A1 : Option Addr) (k1 : Nat) w', bs.length + 4 ≤ k1 → (A1 = none → k1 = 0) → Byts w' A1 (sea bs) → Calls Try.prog 11 #[.slice A1 3 k1] w' fun e w'' => (∃ A' cap', e = .returned (.tuple #[.slice A' 0 cap', .int .i64 4]) ∧ 0 ≤ cap' ∧ cap' ≤ maxLen ∧ (A' = none → cap' = 0) ∧ Byts w'' A' []) ∧ Below w'.heap.size w' w'' := fun A1 k1 w' g1 g2 hb => by
    have e3 : ((sea bs).take 3).length = 3 := by rw [List.length_take, sea_length]; omega
    have := open_row (xopn_b A1 k1 ((sea bs).take 3) 3 e3 (isB_take (sea_isB hB) 3) (by omega) (by omega) g2 w' (Byts.take 3 hb))
    rw [opn_short (by omega)] at this; exact this
  have htk : (sea bs).take bs.length = bs := by unfold sea; simp
  generalize hL : bs.length = L at *
  go_enter Try.func3, Try.ntmps3
  go_upto_region 5 with (first
    | (go_at_call 10; refine Calls.mono (gw_ex (cS _ (Cs.to hp (by repeat (first | with_reducible exact Below.refl _ _ | with_reducible assumption | refine bgw ?_ (by first | (simp; done) | (simp; omega) | omega) _ | refine Below.setCell ?_ (by first | exact Nat.le_of_not_lt (by assumption) | (simp; done) | (simp; omega) | omega) _ | refine Below.alloc ?_ (by first | (simp; done) | (simp; omega) | omega) _ | refine Below.drew ?_))))) ?_; rintro e w1 ⟨⟨A1, k1, rfl, a1, a2, a3, a4⟩, q1, rfl⟩)
    | (go_at_call 11; refine Calls.mono (gw_ex (cO _ _ _ a1 a3 (Cs.to a4 (by repeat (first | with_reducible exact Below.refl _ _ | with_reducible assumption | refine bgw ?_ (by first | (simp; done) | (simp; omega) | omega) _ | refine Below.setCell ?_ (by first | exact Nat.le_of_not_lt (by assumption) | (simp; done) | (simp; omega) | omega) _ | refine Below.alloc ?_ (by first | (simp; done) | (simp; omega) | omega) _ | refine Below.drew ?_))))) ?_; rintro e w1 ⟨⟨A2, k2, rfl, b1, b2, b3, b4⟩, q2, rfl⟩))
  refine wp_named ?_
  intro W hW
  have hbW : Below w.heap.size w W := by rw [hW]; exact (by repeat (first | with_reducible exact Below.refl _ _ | with_reducible assumption | refine bgw ?_ (by first | (simp; done) | (simp; omega) | omega) _ | refine Below.setCell ?_ (by first | exact Nat.le_of_not_lt (by assumption) | (simp; done) | (simp; omega) | omega) _ | refine Below.alloc ?_ (by first | (simp; done) | (simp; omega) | omega) _ | refine Below.drew ?_))
  have hs1 : Byts W A1 (sea bs) := by rw [hW]; exact Cs.to a4 (by repeat (first | with_reducible exact Below.refl _ _ | with_reducible assumption | refine bgw ?_ (by first | (simp; done) | (simp; omega) | omega) _ | refine Below.setCell ?_ (by first | exact Nat.le_of_not_lt (by assumption) | (simp; done) | (simp; omega) | omega) _ | refine Below.alloc ?_ (by first | (simp; done) | (simp; omega) | omega) _ | refine Below.drew ?_))
  have hs2 : Byts W A2 bs := by rw [hW]; exact Cs.to b4 (by repeat (first | with_reducible exact Below.refl _ _ | with_reducible assumption | refine bgw ?_ (by first | (simp; done) | (simp; omega) | omega) _ | refine Below.setCell ?_ (by first | exact Nat.le_of_not_lt (by assumption) | (simp; done) | (simp; omega) | omega) _ | refine Below.alloc ?_ (by first | (simp; done) | (simp; omega) | omega) _ | refine Below.drew ?_))
  have hs0 : Byts W A bs := hp.to hbW
  have hszW := hbW.size
  have hs1' : Byts W A1 bs := by have := Byts.take L hs1; rw [htk] at this; exact this
  clear hW a4 b4
  have v0 : ∀ p, (convert 22 9 (.slice A L cap)).run Try.prog (gw W p) = .ok (.string (strOfNums bs)) (gw W p) := fun p => str_run Try.underlying22 Try.underlying5 Try.underlying9 hL hs0 (below_gw W p)
  have v1 : ∀ p, (convert 22 9 (.slice A1 L k1)).run Try.prog (gw W p) = .ok (.string (strOfNums bs)) (gw W p) := fun p => str_run Try.underlying22 Try.underlying5 Try.underlying9 hL hs1' (below_gw W p)
  have v2 : ∀ p, (convert 22 9 (.slice A2 L k2)).run Try.prog (gw W p) = .ok (.string (strOfNums bs)) (gw W p) := fun p => str_run Try.underlying22 Try.underlying5 Try.underlying9 hL hs2 (below_gw W p)
  have j1 : (L : Int) ≤ (k1 : Int) := by omega
  have j3 : (3 : Int) ≤ (k1 : Int) := by omega
  generalize strOfNums bs = U at *
  refine wp_region_gw (by kernel_rfl) (by kernel_rfl) ?_
  repeat (go_big_quiet_step ((first | (go_at_call 9; exact gw_call (example9_b _)))))
  refine wpQuiet_nil ?_
  intro w1 hw1
  obtain ⟨q, rfl⟩ := hw1
  go_wp2_with (first
    | (go_at_call 11; refine Calls.mono (gw_ex (cT _ _ _ a1 a3 (Cs.to hs1 (by repeat (first | with_reducible exact Below.refl _ _ | with_reducible assumption | refine bgw ?_ (by first | (simp; done) | (simp; omega) | omega) _ | refine Below.setCell ?_ (by first | exact Nat.le_of_not_lt (by assumption) | (simp; done) | (simp; omega) | omega) _ | refine Below.alloc ?_ (by first | (simp; done) | (simp; omega) | omega) _ | refine Below.drew ?_))))) ?_; rintro e w1 ⟨⟨A3, k3, rfl, -⟩, q3, rfl⟩)
    | (go_at_call 9; refine Calls.mono (gw_at (example9_b _)) ?_; rintro e w1 ⟨rfl, q, rfl⟩))
  go_ret
  exact ⟨rfl, (by repeat (first | with_reducible exact Below.refl _ _ | with_reducible assumption | refine bgw ?_ (by first | (simp; done) | (simp; omega) | omega) _ | refine Below.setCell ?_ (by first | exact Nat.le_of_not_lt (by assumption) | (simp; done) | (simp; omega) | omega) _ | refine Below.alloc ?_ (by first | (simp; done) | (simp; omega) | omega) _ | refine Below.drew ?_))⟩

set_option maxHeartbeats 4000000 in
theorem walk_ChecksumExact (h : Int) (A : Option Addr) (ca : Nat) (ns : List Int) (B : Option Addr) (cb : Nat) (bs : List Int) (hh : IntKind.u64.has h) (hB : isB bs) (w : World) (hp : Ints w A ns) (hl : ns.length ≤ ca) (hc : ca ≤ maxLen) (hq : Byts w B bs) (hlb : bs.length ≤ cb) (hcb : cb ≤ maxLen) (hA : B = none → cb = 0) : Calls Try.prog 4 #[.int .u64 h, .slice A ns.length ca, .slice B bs.length cb] w fun e w' => e = .returned (.bool true) ∧ Below w.heap.size w w' := by
  by_cases h1 : 60 < ns.length
  focus
    have h1' : (60 : Int) < (ns.length : Int) := by omega
    go_enter Try.func4, Try.ntmps4
    go_wp2_with (go_at_call 9; refine Calls.mono (gw_at (example9_b _)) ?_; rintro e w1 ⟨rfl, q, rfl⟩)
    go_ret
    exact ⟨rfl, (by repeat (first | with_reducible exact Below.refl _ _ | with_reducible assumption | refine bgw ?_ (by first | (simp; done) | (simp; omega) | omega) _ | refine Below.setCell ?_ (by first | exact Nat.le_of_not_lt (by assumption) | (simp; done) | (simp; omega) | omega) _ | refine Below.alloc ?_ (by first | (simp; done) | (simp; omega) | omega) _ | refine Below.drew ?_))⟩
  have h1' : ¬ (60 : Int) < (ns.length : Int) := by omega
  by_cases h2 : 400 < bs.length
  focus
    have h2' : (400 : Int) < (bs.length : Int) := by omega
    go_enter Try.func4, Try.ntmps4
    go_wp2_with (go_at_call 9; refine Calls.mono (gw_at (example9_b _)) ?_; rintro e w1 ⟨rfl, q, rfl⟩)
    go_ret
    exact ⟨rfl, (by repeat (first | with_reducible exact Below.refl _ _ | with_reducible assumption | refine bgw ?_ (by first | (simp; done) | (simp; omega) | omega) _ | refine Below.setCell ?_ (by first | exact Nat.le_of_not_lt (by assumption) | (simp; done) | (simp; omega) | omega) _ | refine Below.alloc ?_ (by first | (simp; done) | (simp; omega) | omega) _ | refine Below.drew ?_))⟩
  have h2' : ¬ (400 : Int) < (bs.length : Int) := by omega
  have h0 : 0 ≤ h ∧ h < 18446744073709551616 := by have a := hh.1; have b := hh.2; simp [IntKind.min, IntKind.max, IntKind.bits, IntKind.signed] at a b; omega
  clear hh
  obtain ⟨H, rfl⟩ : ∃ H : Nat, h = H := ⟨h.toNat, by omega⟩
  have hH : H < 18446744073709551616 := by omega
  clear h0
  go_enter Try.func4, Try.ntmps4
  go_wp2_with fail
  go_loopw [7] (fun i wr => ∃ k : Nat, k ≤ ns.length ∧ i = .int .i64 k ∧ Below w.heap.size w wr)
    (fun i _ => (ns.length - intOf i).toNat)
  case atStart => exact ⟨0, by omega, rfl, (by repeat (first | with_reducible exact Below.refl _ _ | with_reducible assumption | refine bgw ?_ (by first | (simp; done) | (simp; omega) | omega) _ | refine Below.setCell ?_ (by first | exact Nat.le_of_not_lt (by assumption) | (simp; done) | (simp; omega) | omega) _ | refine Below.alloc ?_ (by first | (simp; done) | (simp; omega) | omega) _ | refine Below.drew ?_))⟩
  case round =>
    obtain ⟨k, hk, rfl, hbw⟩ := hrel
    have hsz := hbw.size
    by_cases hlt : k < ns.length
    · have i0 : (0 : Int) ≤ (k : Int) := by omega
      have i1 : (k : Int) < (ns.length : Int) := by omega
      obtain ⟨b, off, rfl, hce⟩ := Ints.open (hp.to hbw) (by omega)
      have d1 := hce k hlt
      have o1 := older_of_cell d1
      clear hce
      generalize ns[k] = x at *
      go_wp2_with (first | (go_at_call 9; refine Calls.mono (gw_at (example9_b _)) ?_; rintro e w1 ⟨rfl, q, rfl⟩) | (go_at_call 12; refine Calls.mono (gw_at (xmix_b _ _ (by with_reducible assumption) _)) ?_; rintro e w1 ⟨rfl, q, rfl⟩) | (go_at_call 13; refine Calls.mono (gw_at (rmix_b _ _ (by with_reducible assumption) _)) ?_; rintro e w1 ⟨rfl, q, rfl⟩))
      refine wp_region_gw (by kernel_rfl) (by kernel_rfl) ?_
      repeat (go_big_quiet_step ((first | (go_at_call 9; exact gw_call (example9_b _)) | (go_at_call 12; exact gw_call (xmix_b _ _ (by with_reducible assumption) _)) | (go_at_call 13; exact gw_call (rmix_b _ _ (by with_reducible assumption) _)))))
      refine wpQuiet_nil ?_
      intro w1 hw1
      obtain ⟨q, rfl⟩ := hw1
      go_wp2_with (first | (go_at_call 9; refine Calls.mono (gw_at (example9_b _)) ?_; rintro e w1 ⟨rfl, q, rfl⟩) | (go_at_call 12; refine Calls.mono (gw_at (xmix_b _ _ (by with_reducible assumption) _)) ?_; rintro e w1 ⟨rfl, q, rfl⟩) | (go_at_call 13; refine Calls.mono (gw_at (rmix_b _ _ (by with_reducible assumption) _)) ?_; rintro e w1 ⟨rfl, q, rfl⟩))
      exact ⟨⟨k + 1, by omega, by go_num, (by repeat (first | with_reducible exact Below.refl _ _ | with_reducible assumption | refine bgw ?_ (by first | (simp; done) | (simp; omega) | omega) _ | refine Below.setCell ?_ (by first | exact Nat.le_of_not_lt (by assumption) | (simp; done) | (simp; omega) | omega) _ | refine Below.alloc ?_ (by first | (simp; done) | (simp; omega) | omega) _ | refine Below.drew ?_))⟩, by (try go_num); simp [intOf]; (try omega)⟩
    · obtain rfl : k = ns.length := by omega
      have i1 : ¬ (ns.length : Int) < (ns.length : Int) := by omega
      have hp' : Ints wr A ns := hp.to hbw
      have hq' : Byts wr B bs := hq.to hbw
      have c1 := fun w' => fun hb : Ints w' A ns => xhash_b A ca ns ns.length rfl (by omega) w' hb
      have c2 := fun w' => fun hb : Ints w' A ns => rhash_b A ca ns (by omega) w' hb
      have c3 := fun w' => fun hb : Byts w' B bs => xcrc_b B cb bs bs.length rfl hB (by omega) w' hb
      have c4 := fun w' => fun hb : Byts w' B bs => rcrc_b B cb bs hB (by omega) w' hb
      have c5 := fun w' => fun hb : Byts w' B bs => seal_row (xsea_b B cb bs bs.length rfl hB (by omega) hlb hA w' hb)
      have c6 := fun w' => fun hb : Byts w' B bs => seal_row (rsea_b B cb bs bs.length rfl hB (by omega) hA w' hb)
      have hsB := sea_isB hB
      have hsl := sea_length bs
      have cE : ∀ (A1 A2 : Option Addr) (k1 k2 : Nat) w', Byts w' A1 (sea bs) → Byts w' A2 (sea bs) → Calls Try.prog 18 #[.slice A1 (bs.length + 4) k1, .slice A2 (bs.length + 4) k2] w' fun e w'' => e = .returned (.bool true) ∧ Below w'.heap.size w' w'' := fun A1 A2 k1 k2 w' s1 s2 => by
        have := req9_b A1 A2 k1 k2 (sea bs) (sea bs) (bs.length + 4) (bs.length + 4) hsl hsl hsB hsB w' s1 s2
        rw [decide_eq_true rfl] at this; exact this
      generalize sea bs = S at *
      generalize crc bs = C at *
      generalize hsh ns = Z at *
      clear hsB hsl hB
      go_wp2_with (first
        | (go_at_call 14; refine Calls.mono (gw_at (c1 _ (Cs.to hp' (by repeat (first | with_reducible exact Below.refl _ _ | with_reducible assumption | refine bgw ?_ (by first | (simp; done) | (simp; omega) | omega) _ | refine Below.setCell ?_ (by first | exact Nat.le_of_not_lt (by assumption) | (simp; done) | (simp; omega) | omega) _ | refine Below.alloc ?_ (by first | (simp; done) | (simp; omega) | omega) _ | refine Below.drew ?_))))) ?_; rintro e w1 ⟨rfl, q, rfl⟩)
        | (go_at_call 15; refine Calls.mono (gw_at (c2 _ (Cs.to hp' (by repeat (first | with_reducible exact Below.refl _ _ | with_reducible assumption | refine bgw ?_ (by first | (simp; done) | (simp; omega) | omega) _ | refine Below.setCell ?_ (by first | exact Nat.le_of_not_lt (by assumption) | (simp; done) | (simp; omega) | omega) _ | refine Below.alloc ?_ (by first | (simp; done) | (simp; omega) | omega) _ | refine Below.drew ?_))))) ?_; rintro e w1 ⟨rfl, q, rfl⟩)
        | (go_at_call 16; refine Calls.mono (gw_at (c3 _ (Cs.to hq' (by repeat (first | with_reducible exact Below.refl _ _ | with_reducible assumption | refine bgw ?_ (by first | (simp; done) | (simp; omega) | omega) _ | refine Below.setCell ?_ (by first | exact Nat.le_of_not_lt (by assumption) | (simp; done) | (simp; omega) | omega) _ | refine Below.alloc ?_ (by first | (simp; done) | (simp; omega) | omega) _ | refine Below.drew ?_))))) ?_; rintro e w1 ⟨rfl, q, rfl⟩)
        | (go_at_call 17; refine Calls.mono (gw_at (c4 _ (Cs.to hq' (by repeat (first | with_reducible exact Below.refl _ _ | with_reducible assumption | refine bgw ?_ (by first | (simp; done) | (simp; omega) | omega) _ | refine Below.setCell ?_ (by first | exact Nat.le_of_not_lt (by assumption) | (simp; done) | (simp; omega) | omega) _ | refine Below.alloc ?_ (by first | (simp; done) | (simp; omega) | omega) _ | refine Below.drew ?_))))) ?_; rintro e w1 ⟨rfl, q, rfl⟩)
        | (go_at_call 10; refine Calls.mono (gw_ex (c5 _ (Cs.to hq' (by repeat (first | with_reducible exact Below.refl _ _ | with_reducible assumption | refine bgw ?_ (by first | (simp; done) | (simp; omega) | omega) _ | refine Below.setCell ?_ (by first | exact Nat.le_of_not_lt (by assumption) | (simp; done) | (simp; omega) | omega) _ | refine Below.alloc ?_ (by first | (simp; done) | (simp; omega) | omega) _ | refine Below.drew ?_))))) ?_; rintro e w1 ⟨⟨A1, k1, rfl, -, -, -, s1⟩, q1, rfl⟩)
        | (go_at_call 19; refine Calls.mono (gw_ex (c6 _ (Cs.to hq' (by repeat (first | with_reducible exact Below.refl _ _ | with_reducible assumption | refine bgw ?_ (by first | (simp; done) | (simp; omega) | omega) _ | refine Below.setCell ?_ (by first | exact Nat.le_of_not_lt (by assumption) | (simp; done) | (simp; omega) | omega) _ | refine Below.alloc ?_ (by first | (simp; done) | (simp; omega) | omega) _ | refine Below.drew ?_))))) ?_; rintro e w1 ⟨⟨A2, k2, rfl, -, -, -, s2⟩, q2, rfl⟩)
        | (go_at_call 18; refine Calls.mono (gw_at (cE _ _ _ _ _ (Cs.to s1 (by repeat (first | with_reducible exact Below.refl _ _ | with_reducible assumption | refine bgw ?_ (by first | (simp; done) | (simp; omega) | omega) _ | refine Below.setCell ?_ (by first | exact Nat.le_of_not_lt (by assumption) | (simp; done) | (simp; omega) | omega) _ | refine Below.alloc ?_ (by first | (simp; done) | (simp; omega) | omega) _ | refine Below.drew ?_))) (Cs.to s2 (by repeat (first | with_reducible exact Below.refl _ _ | with_reducible assumption | refine bgw ?_ (by first | (simp; done) | (simp; omega) | omega) _ | refine Below.setCell ?_ (by first | exact Nat.le_of_not_lt (by assumption) | (simp; done) | (simp; omega) | omega) _ | refine Below.alloc ?_ (by first | (simp; done) | (simp; omega) | omega) _ | refine Below.drew ?_))))) ?_; rintro e w1 ⟨rfl, q, rfl⟩)
        | (go_at_call 9; refine Calls.mono (gw_at (example9_b _)) ?_; rintro e w1 ⟨rfl, q, rfl⟩))
      go_ret
      exact ⟨rfl, (by repeat (first | with_reducible exact Below.refl _ _ | with_reducible assumption | refine bgw ?_ (by first | (simp; done) | (simp; omega) | omega) _ | refine Below.setCell ?_ (by first | exact Nat.le_of_not_lt (by assumption) | (simp; done) | (simp; omega) | omega) _ | refine Below.alloc ?_ (by first | (simp; done) | (simp; omega) | omega) _ | refine Below.drew ?_))⟩

end Go.Proofs.Ytmdnbmekbhljkaa
