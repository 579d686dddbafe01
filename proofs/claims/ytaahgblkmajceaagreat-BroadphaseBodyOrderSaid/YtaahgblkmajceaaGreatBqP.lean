/- Chapter 22: BroadphaseComplete. -/
import Derived.Test.YtaahgblkmajceaaGreatBqK
import Derived.Test.YtaahgblkmajceaaGreatBj1
set_option linter.unusedVariables false
set_option linter.unusedSimpArgs false
namespace Go.Proofs.YtaahgblkmajceaaGreat
open Go.RowKit Fx Go.Maps

set_option maxRecDepth 100000 in
set_option maxHeartbeats 4000000 in
theorem rfewA_b (A : Option Addr) (cap : Nat) (l : List Bdy) (lim : Int) (hlim : lim ≤ 1000000) (D : Bool) (hD : fewB l lim = D) (w : World) (h : Bods w A l) : Calls Tryz.prog 9 #[.slice A l.length cap, .int .i64 lim] w fun e w' => e = .returned (.bool D) ∧ Below w.heap.size w w' := by
  by_cases h0 : (l.length : Int) > lim
  · obtain rfl : D = false := by rw [← hD]; unfold fewB; simp; omega
    clear hD h
    go_enter Tryz.func9, Tryz.ntmps9
    go_wp2_with fail
    go_ret
    exact ⟨rfl, bBel⟩
  · rw [← hD]
    exact rfew_b A cap l lim (by omega) w h
theorem fewB_iff {l : List Bdy} {lim : Int} : fewB l lim = true ↔ (l.length : Int) ≤ lim ∧ ∀ b ∈ l, okF b := by unfold fewB; exact decide_eq_true_iff
theorem fpL_len {l : List Bdy} {js : List Jnt} (h : ∀ x ∈ l, okF x) (hl : l.length ≤ 100) : (fpL l js).length ≤ 640000 := by
  have h1 := ki_len (js := js) h hl l.length
  unfold fpL; rw [srK_len]; omega

set_option maxRecDepth 100000 in
set_option maxHeartbeats 8000000 in
theorem walk_BroadphaseComplete (A : Option Addr) (cap : Nat) (l : List Bdy) (A2 : Option Addr) (cap2 : Nat) (js : List Jnt) (w : World) (ha : Bods w A l) (hj : Jnts w A2 js) : Calls Tryz.prog 3 #[.slice A l.length cap, .slice A2 js.length cap2] w fun e w' => e = .returned (.bool true) ∧ Below w.heap.size w w' := by
  have cE := fun w' => example22_b w'
  cases hF : fewB l 10 with
  | false =>
    have cFw := fun w' hw' => rfewA_b A cap l 10 (by decide) false hF w' hw'
    clear hF
    go_enter Tryz.func3, Tryz.ntmps3
    go_wp2_with (first | (go_at_call 9; with_reducible_and_instances refine Calls.mono (gw_at (cFw _ (Bods.to ha bBel))) ?_; rintro e w1 ⟨rfl, q, rfl⟩) | (go_at_call 10; with_reducible_and_instances refine Calls.mono (gw_at (cE _)) ?_; rintro e w1 ⟨rfl, q, rfl⟩))
    go_ret
    exact ⟨rfl, bBel⟩
  | true =>
    have cFw := fun w' hw' => rfewA_b A cap l 10 (by decide) true hF w' hw'
    obtain ⟨hl, hok0⟩ := fewB_iff.1 hF
    have hok : Hid (∀ x ∈ l, okF x) := hok0
    clear hF hok0
    by_cases h12 : 12 < js.length
    · have h12' : (12 : Int) < (js.length : Int) := by omega
      go_enter Tryz.func3, Tryz.ntmps3
      go_wp2_with (first | (go_at_call 9; with_reducible_and_instances refine Calls.mono (gw_at (cFw _ (Bods.to ha bBel))) ?_; rintro e w1 ⟨rfl, q, rfl⟩) | (go_at_call 10; with_reducible_and_instances refine Calls.mono (gw_at (cE _)) ?_; rintro e w1 ⟨rfl, q, rfl⟩))
      go_ret
      exact ⟨rfl, bBel⟩
    have h12' : decide ((12 : Int) < (js.length : Int)) = false := by simp; omega
    have h12'' : decide (12 < js.length) = false := by simp; omega
    have hll : l.length ≤ 100 := by omega
    have hjl : js.length ≤ 1000 := by omega
    have cP := fun w' hw' hj' => fp_b A A2 cap cap2 l js hll hok.out hjl w' hw' hj'
    have cR := fun w' hw' hj' => rfp_b A A2 cap cap2 l js hll hok.out hjl w' hw' hj'
    have hfl := fpL_len (js := js) hok.out hll
    clear h12
    generalize fpL l js = L at *
    go_enter Tryz.func3, Tryz.ntmps3
    go_upto_region 3 with (go_at_call 9; refine Calls.mono (gw_at (cFw _ (Bods.to ha bBel))) ?_; rintro e w1 ⟨rfl, q, rfl⟩)
    refine wp_named ?_
    intro W hW
    have hbW : Below w.heap.size w W := by rw [hW]; exact bBel
    clear hW
    have hszW := hbW.size
    have haW := Bods.to ha hbW
    have hjW := Jnts.to hj hbW
    clear cFw
    go_wp2_with (first | (go_at_call 12; with_reducible_and_instances refine Calls.mono (cP W haW hjW) ?_; rintro e W1 ⟨⟨v1, rfl, ho1⟩, hb1⟩; obtain ⟨A5, c5, rfl, -, -, -, hK1⟩ := owns_kys ho1; clear ho1; have hbw1 : Below w.heap.size w W1 := Below.trans hbW (hb1.mono hszW)) | (go_at_call 13; with_reducible_and_instances refine Calls.mono (cR W1 (Bods.to ha hbw1) (Jnts.to hj hbw1)) ?_; rintro e W2 ⟨⟨v2, rfl, ho2⟩, hb2⟩; obtain ⟨A6, c6, rfl, -, -, -, hK2⟩ := owns_kys ho2; clear ho2; have hbw2 : Below w.heap.size w W2 := Below.trans hbw1 (hb2.mono hbw1.size); have hszw2 := hbw2.size; have hK12 := Kys.to hK1 hb2) | (go_at_call 11; with_reducible_and_instances refine Calls.mono (gw_at (rkeys_b A5 A6 c5 c6 L L W2 hK12 hK2 true (by simp) (by omega))) ?_; rintro e w3 ⟨rfl, q3, rfl⟩) | (go_at_call 10; with_reducible_and_instances refine Calls.mono (gw_at (cE _)) ?_; rintro e w3 ⟨rfl, q4, rfl⟩))
    go_ret
    exact ⟨rfl, bBel⟩

end Go.Proofs.YtaahgblkmajceaaGreat
