/- Contracts of the reference of chapter 12: validation.
Contracts of the reference of chapter 12, continued: equality, copies, transformed vertices.
Contracts of the reference of chapter 12, continued: copies, bounds, bounding radius.
Contracts of the reference of chapter 12, continued: bounds, support, containment.
Contracts of the reference of chapter 12, continued: support, containment. -/
import Derived.Test.YtipcbcngedpmkaaMa5
import Derived.Test.YtipcbcngedpmkaaCo3
import Derived.Test.YtipcbcngedpmkaaCo5
import Derived.Test.YtipcbcngedpmkaaSh1
import Derived.Test.YtipcbcngedpmkaaKi1
import Derived.Test.YtipcbcngedpmkaaKi3

set_option linter.unusedVariables false
namespace Go.Proofs.Ytipcbcngedpmkaa
open Go.RowKit Fx

def in20 (x : Int) : Bool := decide (-1048576 ≤ x) && decide (x ≤ 1048576)
theorem in20_inr {p : Int × Int} : inrP p ↔ in20 p.1 = true ∧ in20 p.2 = true := by
  unfold inrP in20; simp only [Bool.and_eq_true, decide_eq_true_eq]; exact ⟨fun h => ⟨⟨h.1, h.2.1⟩, h.2.2.1, h.2.2.2⟩, fun h => ⟨h.1.1, h.1.2, h.2.1, h.2.2⟩⟩

theorem rwith_b (x : Int) (w : World) : Calls Try.prog 15 #[.int .i64 x, .int .i64 1048576] w fun e w' => e = .returned (.bool (in20 x)) ∧ Below w.heap.size w w' := by
  go_enter Try.func15, Try.ntmps15
  go_wp2_with fail
  all_goals (go_ret; refine ⟨?_, bBel⟩; first | rfl | (simp [in20]; done) | (simp [in20]; omega) | (simp [in20]; rw [Bool.eq_iff_iff]; first | (simp; done) | (simp; omega)))

theorem rcount_b (K R : Int) (A : Option Addr) (cap n : Nat) (w : World) : Calls Try.prog 14 #[.agg #[.int .i64 K, .int .i64 R, .slice A n cap]] w fun e w' => e = .returned (.bool (cntok K n)) ∧ Below w.heap.size w w' := by
  by_cases h3 : K = 3
  · subst h3
    go_enter Try.func14, Try.ntmps14
    go_wp2_with fail
    all_goals (go_ret; refine ⟨?_, bBel⟩; first | rfl | (simp [cntok]; done) | (simp [cntok]; omega) | (simp [cntok]; rw [Bool.eq_iff_iff]; first | (simp; done) | (simp; omega)))
  · have b3 : (K == 3) = false := by rw [beq_eq_false_iff_ne]; exact h3
    have e : cntok K n = ((n : Int) == K) := by unfold cntok; rw [if_neg h3, Bool.eq_iff_iff]; simp
    rw [e]
    go_enter Try.func14, Try.ntmps14
    go_wp2_with fail
    go_ret
    exact ⟨rfl, bBel⟩

set_option maxRecDepth 100000 in
set_option maxHeartbeats 8000000 in
theorem rval_b (K R : Int) (A : Option Addr) (cap : Nat) (ps : List (Int × Int)) (hl : ps.length ≤ 4611686018427387904) (w : World) (hp : Pts w A ps) : Calls Try.prog 7 #[.agg #[.int .i64 K, .int .i64 R, .slice A ps.length cap]] w fun e w' => e = .returned (.int .i64 (valS K R ps)) ∧ Below w.heap.size w w' := by
  obtain ⟨V, hV⟩ : ∃ V, valS K R ps = V := ⟨_, rfl⟩
  rw [hV]
  by_cases hK1 : K < 1
  focus
    obtain rfl : V = 10 := by rw [← hV]; unfold valS; rw [if_pos (.inl hK1)]
    go_enter Try.func7, Try.ntmps7
    go_wp2_with (first | (go_at_call 14; (first | (refine Calls.mono (gw_at (boolIs (rcount_b _ _ _ _ _ _) (b := true) (by assumption))) ?_; rintro e w1 ⟨rfl, q, rfl⟩) | (refine Calls.mono (gw_at (boolIs (rcount_b _ _ _ _ _ _) (b := false) (by assumption))) ?_; rintro e w1 ⟨rfl, q, rfl⟩) | (refine Calls.mono (gw_at (rcount_b _ _ _ _ _ _)) ?_; rintro e w1 ⟨rfl, q, rfl⟩))) | (go_at_call 15; (first | (refine Calls.mono (gw_at (boolIs (rwith_b _ _) (b := true) (by assumption))) ?_; rintro e w1 ⟨rfl, q, rfl⟩) | (refine Calls.mono (gw_at (boolIs (rwith_b _ _) (b := false) (by assumption))) ?_; rintro e w1 ⟨rfl, q, rfl⟩) | (refine Calls.mono (gw_at (rwith_b _ _)) ?_; rintro e w1 ⟨rfl, q, rfl⟩))) | (go_at_call 17; refine Calls.mono (gw_at (rvsub_b _ _ _ _ _)) ?_; rintro e w1 ⟨rfl, q, rfl⟩) | (go_at_call 16; refine Calls.mono (gw_at (rvlen_b _ _ _)) ?_; rintro e w1 ⟨rfl, q, rfl⟩))
    repeat
      refine wp_region_gw (by kernel_rfl) (by kernel_rfl) ?_
      repeat (go_big_quiet_step ((first | (go_at_call 14; (first | (exact gw_call (boolIs (rcount_b _ _ _ _ _ _) (b := true) (by assumption))) | (exact gw_call (boolIs (rcount_b _ _ _ _ _ _) (b := false) (by assumption))) | (exact gw_call (rcount_b _ _ _ _ _ _)))) | (go_at_call 15; (first | (exact gw_call (boolIs (rwith_b _ _) (b := true) (by assumption))) | (exact gw_call (boolIs (rwith_b _ _) (b := false) (by assumption))) | (exact gw_call (rwith_b _ _)))) | (go_at_call 17; exact gw_call (rvsub_b _ _ _ _ _)) | (go_at_call 16; exact gw_call (rvlen_b _ _ _)))))
      refine wpQuiet_nil ?_
      intro w1 hw1
      obtain ⟨q, rfl⟩ := hw1
      go_wp2_with (first | (go_at_call 14; (first | (refine Calls.mono (gw_at (boolIs (rcount_b _ _ _ _ _ _) (b := true) (by assumption))) ?_; rintro e w1 ⟨rfl, q, rfl⟩) | (refine Calls.mono (gw_at (boolIs (rcount_b _ _ _ _ _ _) (b := false) (by assumption))) ?_; rintro e w1 ⟨rfl, q, rfl⟩) | (refine Calls.mono (gw_at (rcount_b _ _ _ _ _ _)) ?_; rintro e w1 ⟨rfl, q, rfl⟩))) | (go_at_call 15; (first | (refine Calls.mono (gw_at (boolIs (rwith_b _ _) (b := true) (by assumption))) ?_; rintro e w1 ⟨rfl, q, rfl⟩) | (refine Calls.mono (gw_at (boolIs (rwith_b _ _) (b := false) (by assumption))) ?_; rintro e w1 ⟨rfl, q, rfl⟩) | (refine Calls.mono (gw_at (rwith_b _ _)) ?_; rintro e w1 ⟨rfl, q, rfl⟩))) | (go_at_call 17; refine Calls.mono (gw_at (rvsub_b _ _ _ _ _)) ?_; rintro e w1 ⟨rfl, q, rfl⟩) | (go_at_call 16; refine Calls.mono (gw_at (rvlen_b _ _ _)) ?_; rintro e w1 ⟨rfl, q, rfl⟩))
    go_ret
    exact ⟨rfl, bBel⟩
  by_cases hK3 : 3 < K
  focus
    obtain rfl : V = 10 := by rw [← hV]; unfold valS; rw [if_pos (.inr hK3)]
    go_enter Try.func7, Try.ntmps7
    go_wp2_with (first | (go_at_call 14; (first | (refine Calls.mono (gw_at (boolIs (rcount_b _ _ _ _ _ _) (b := true) (by assumption))) ?_; rintro e w1 ⟨rfl, q, rfl⟩) | (refine Calls.mono (gw_at (boolIs (rcount_b _ _ _ _ _ _) (b := false) (by assumption))) ?_; rintro e w1 ⟨rfl, q, rfl⟩) | (refine Calls.mono (gw_at (rcount_b _ _ _ _ _ _)) ?_; rintro e w1 ⟨rfl, q, rfl⟩))) | (go_at_call 15; (first | (refine Calls.mono (gw_at (boolIs (rwith_b _ _) (b := true) (by assumption))) ?_; rintro e w1 ⟨rfl, q, rfl⟩) | (refine Calls.mono (gw_at (boolIs (rwith_b _ _) (b := false) (by assumption))) ?_; rintro e w1 ⟨rfl, q, rfl⟩) | (refine Calls.mono (gw_at (rwith_b _ _)) ?_; rintro e w1 ⟨rfl, q, rfl⟩))) | (go_at_call 17; refine Calls.mono (gw_at (rvsub_b _ _ _ _ _)) ?_; rintro e w1 ⟨rfl, q, rfl⟩) | (go_at_call 16; refine Calls.mono (gw_at (rvlen_b _ _ _)) ?_; rintro e w1 ⟨rfl, q, rfl⟩))
    repeat
      refine wp_region_gw (by kernel_rfl) (by kernel_rfl) ?_
      repeat (go_big_quiet_step ((first | (go_at_call 14; (first | (exact gw_call (boolIs (rcount_b _ _ _ _ _ _) (b := true) (by assumption))) | (exact gw_call (boolIs (rcount_b _ _ _ _ _ _) (b := false) (by assumption))) | (exact gw_call (rcount_b _ _ _ _ _ _)))) | (go_at_call 15; (first | (exact gw_call (boolIs (rwith_b _ _) (b := true) (by assumption))) | (exact gw_call (boolIs (rwith_b _ _) (b := false) (by assumption))) | (exact gw_call (rwith_b _ _)))) | (go_at_call 17; exact gw_call (rvsub_b _ _ _ _ _)) | (go_at_call 16; exact gw_call (rvlen_b _ _ _)))))
      refine wpQuiet_nil ?_
      intro w1 hw1
      obtain ⟨q, rfl⟩ := hw1
      go_wp2_with (first | (go_at_call 14; (first | (refine Calls.mono (gw_at (boolIs (rcount_b _ _ _ _ _ _) (b := true) (by assumption))) ?_; rintro e w1 ⟨rfl, q, rfl⟩) | (refine Calls.mono (gw_at (boolIs (rcount_b _ _ _ _ _ _) (b := false) (by assumption))) ?_; rintro e w1 ⟨rfl, q, rfl⟩) | (refine Calls.mono (gw_at (rcount_b _ _ _ _ _ _)) ?_; rintro e w1 ⟨rfl, q, rfl⟩))) | (go_at_call 15; (first | (refine Calls.mono (gw_at (boolIs (rwith_b _ _) (b := true) (by assumption))) ?_; rintro e w1 ⟨rfl, q, rfl⟩) | (refine Calls.mono (gw_at (boolIs (rwith_b _ _) (b := false) (by assumption))) ?_; rintro e w1 ⟨rfl, q, rfl⟩) | (refine Calls.mono (gw_at (rwith_b _ _)) ?_; rintro e w1 ⟨rfl, q, rfl⟩))) | (go_at_call 17; refine Calls.mono (gw_at (rvsub_b _ _ _ _ _)) ?_; rintro e w1 ⟨rfl, q, rfl⟩) | (go_at_call 16; refine Calls.mono (gw_at (rvlen_b _ _ _)) ?_; rintro e w1 ⟨rfl, q, rfl⟩))
    go_ret
    exact ⟨rfl, bBel⟩
  cases hcnt : cntok K ps.length
  focus
    obtain rfl : V = 11 := by rw [← hV]; unfold valS; rw [if_neg (by omega), if_pos hcnt]
    go_enter Try.func7, Try.ntmps7
    go_wp2_with (first | (go_at_call 14; (first | (refine Calls.mono (gw_at (boolIs (rcount_b _ _ _ _ _ _) (b := true) (by assumption))) ?_; rintro e w1 ⟨rfl, q, rfl⟩) | (refine Calls.mono (gw_at (boolIs (rcount_b _ _ _ _ _ _) (b := false) (by assumption))) ?_; rintro e w1 ⟨rfl, q, rfl⟩) | (refine Calls.mono (gw_at (rcount_b _ _ _ _ _ _)) ?_; rintro e w1 ⟨rfl, q, rfl⟩))) | (go_at_call 15; (first | (refine Calls.mono (gw_at (boolIs (rwith_b _ _) (b := true) (by assumption))) ?_; rintro e w1 ⟨rfl, q, rfl⟩) | (refine Calls.mono (gw_at (boolIs (rwith_b _ _) (b := false) (by assumption))) ?_; rintro e w1 ⟨rfl, q, rfl⟩) | (refine Calls.mono (gw_at (rwith_b _ _)) ?_; rintro e w1 ⟨rfl, q, rfl⟩))) | (go_at_call 17; refine Calls.mono (gw_at (rvsub_b _ _ _ _ _)) ?_; rintro e w1 ⟨rfl, q, rfl⟩) | (go_at_call 16; refine Calls.mono (gw_at (rvlen_b _ _ _)) ?_; rintro e w1 ⟨rfl, q, rfl⟩))
    repeat
      refine wp_region_gw (by kernel_rfl) (by kernel_rfl) ?_
      repeat (go_big_quiet_step ((first | (go_at_call 14; (first | (exact gw_call (boolIs (rcount_b _ _ _ _ _ _) (b := true) (by assumption))) | (exact gw_call (boolIs (rcount_b _ _ _ _ _ _) (b := false) (by assumption))) | (exact gw_call (rcount_b _ _ _ _ _ _)))) | (go_at_call 15; (first | (exact gw_call (boolIs (rwith_b _ _) (b := true) (by assumption))) | (exact gw_call (boolIs (rwith_b _ _) (b := false) (by assumption))) | (exact gw_call (rwith_b _ _)))) | (go_at_call 17; exact gw_call (rvsub_b _ _ _ _ _)) | (go_at_call 16; exact gw_call (rvlen_b _ _ _)))))
      refine wpQuiet_nil ?_
      intro w1 hw1
      obtain ⟨q, rfl⟩ := hw1
      go_wp2_with (first | (go_at_call 14; (first | (refine Calls.mono (gw_at (boolIs (rcount_b _ _ _ _ _ _) (b := true) (by assumption))) ?_; rintro e w1 ⟨rfl, q, rfl⟩) | (refine Calls.mono (gw_at (boolIs (rcount_b _ _ _ _ _ _) (b := false) (by assumption))) ?_; rintro e w1 ⟨rfl, q, rfl⟩) | (refine Calls.mono (gw_at (rcount_b _ _ _ _ _ _)) ?_; rintro e w1 ⟨rfl, q, rfl⟩))) | (go_at_call 15; (first | (refine Calls.mono (gw_at (boolIs (rwith_b _ _) (b := true) (by assumption))) ?_; rintro e w1 ⟨rfl, q, rfl⟩) | (refine Calls.mono (gw_at (boolIs (rwith_b _ _) (b := false) (by assumption))) ?_; rintro e w1 ⟨rfl, q, rfl⟩) | (refine Calls.mono (gw_at (rwith_b _ _)) ?_; rintro e w1 ⟨rfl, q, rfl⟩))) | (go_at_call 17; refine Calls.mono (gw_at (rvsub_b _ _ _ _ _)) ?_; rintro e w1 ⟨rfl, q, rfl⟩) | (go_at_call 16; refine Calls.mono (gw_at (rvlen_b _ _ _)) ?_; rintro e w1 ⟨rfl, q, rfl⟩))
    go_ret
    exact ⟨rfl, bBel⟩
  have h6 : Hid (¬ (∀ p ∈ ps, inrP p) → V = 6) := fun h => by rw [← hV]; unfold valS; rw [if_neg (by omega), if_neg (by rw [hcnt]; decide), if_pos h]
  have h7 : Hid ((∀ p ∈ ps, inrP p) → V = if radbad K R = true then 6 else if capbad K ps = true then 12 else if polbad K ps = true then 12 else 0) := fun h => by rw [← hV]; unfold valS; rw [if_neg (by omega), if_neg (by rw [hcnt]; decide), if_neg (fun h' => h' h)]
  clear hV
  go_enter Try.func7, Try.ntmps7
  go_wp2_with (first | (go_at_call 14; (first | (refine Calls.mono (gw_at (boolIs (rcount_b _ _ _ _ _ _) (b := true) (by assumption))) ?_; rintro e w1 ⟨rfl, q, rfl⟩) | (refine Calls.mono (gw_at (boolIs (rcount_b _ _ _ _ _ _) (b := false) (by assumption))) ?_; rintro e w1 ⟨rfl, q, rfl⟩) | (refine Calls.mono (gw_at (rcount_b _ _ _ _ _ _)) ?_; rintro e w1 ⟨rfl, q, rfl⟩))) | (go_at_call 15; (first | (refine Calls.mono (gw_at (boolIs (rwith_b _ _) (b := true) (by assumption))) ?_; rintro e w1 ⟨rfl, q, rfl⟩) | (refine Calls.mono (gw_at (boolIs (rwith_b _ _) (b := false) (by assumption))) ?_; rintro e w1 ⟨rfl, q, rfl⟩) | (refine Calls.mono (gw_at (rwith_b _ _)) ?_; rintro e w1 ⟨rfl, q, rfl⟩))) | (go_at_call 17; refine Calls.mono (gw_at (rvsub_b _ _ _ _ _)) ?_; rintro e w1 ⟨rfl, q, rfl⟩) | (go_at_call 16; refine Calls.mono (gw_at (rvlen_b _ _ _)) ?_; rintro e w1 ⟨rfl, q, rfl⟩))
  refine wp_named ?_
  intro W hW
  have kB : blk W w.heap.size #[.int .i64 K, .int .i64 R, .slice A ps.length cap] 25 := by rw [hW]; exact bBkn
  have hbW : Below w.heap.size w W := by rw [hW]; exact bBel
  clear hW
  have hP : Pts W A ps := Pts.to hp hbW
  have hszW := hbW.size
  have okB := blk_older kB
  have ckB_0 : _ = some _ := blk_cell kB 0
  have ckB_1 : _ = some _ := blk_cell kB 1
  have ckB_2 : _ = some _ := blk_cell kB 2
  have fkB_0 := blk_free kB 0
  have fkB_1 := blk_free kB 1
  have fkB_2 := blk_free kB 2
  go_loopw [3] (fun i wr => ∃ k : Nat, k ≤ ps.length ∧ i = .int .i64 (k : Int) ∧ (∀ j (h : j < ps.length), j < k → inrP ps[j]) ∧ ∃ p, wr = gw W p)
    (fun i _ => (ps.length - intOf i).toNat)
  case atStart => exact ⟨0, by omega, rfl, by omega, ⟨⟨W.drawn, #[]⟩, (gw_zero W).symm⟩⟩
  case round =>
    obtain ⟨k, hk, rfl, hall, p, rfl⟩ := hrel
    by_cases hlt : k < ps.length
    · have j0 : (0 : Int) ≤ (k : Int) := by omega
      have j1 : (k : Int) < (ps.length : Int) := by omega
      obtain ⟨b2, off2, hA2, hc2⟩ := pts_open hP (by omega)
      subst hA2
      obtain ⟨d0, d1⟩ := hc2 p k hlt
      have ob := older_of_cell d0
      clear hc2
      have hI : Hid (inrP ps[k] ↔ in20 ps[k].1 = true ∧ in20 ps[k].2 = true) := in20_inr
      have hnx : Hid (inrP ps[k] → ∀ j (h : j < ps.length), j < k + 1 → inrP ps[j]) := fun h j hj hjk => by
        rcases (by omega : j < k ∨ j = k) with h4 | rfl
        · exact hall j hj h4
        · exact h
      have hbad : Hid (¬ inrP ps[k] → V = 6) := fun h => h6.out fun h' => h (h' _ (List.getElem_mem hlt))
      clear hall h6 h7
      generalize ps[k].1 = x at *
      generalize ps[k].2 = y at *
      cases hx : in20 x
      focus
        obtain rfl : V = 6 := hbad.out fun h => by have := (hI.out.1 h).1; rw [hx] at this; cases this
        clear hI hnx hbad
        go_wp2_with (first | (go_at_call 14; (first | (refine Calls.mono (gw_at (boolIs (rcount_b _ _ _ _ _ _) (b := true) (by assumption))) ?_; rintro e w1 ⟨rfl, q, rfl⟩) | (refine Calls.mono (gw_at (boolIs (rcount_b _ _ _ _ _ _) (b := false) (by assumption))) ?_; rintro e w1 ⟨rfl, q, rfl⟩) | (refine Calls.mono (gw_at (rcount_b _ _ _ _ _ _)) ?_; rintro e w1 ⟨rfl, q, rfl⟩))) | (go_at_call 15; (first | (refine Calls.mono (gw_at (boolIs (rwith_b _ _) (b := true) (by assumption))) ?_; rintro e w1 ⟨rfl, q, rfl⟩) | (refine Calls.mono (gw_at (boolIs (rwith_b _ _) (b := false) (by assumption))) ?_; rintro e w1 ⟨rfl, q, rfl⟩) | (refine Calls.mono (gw_at (rwith_b _ _)) ?_; rintro e w1 ⟨rfl, q, rfl⟩))) | (go_at_call 17; refine Calls.mono (gw_at (rvsub_b _ _ _ _ _)) ?_; rintro e w1 ⟨rfl, q, rfl⟩) | (go_at_call 16; refine Calls.mono (gw_at (rvlen_b _ _ _)) ?_; rintro e w1 ⟨rfl, q, rfl⟩))
        go_ret
        exact ⟨rfl, bBel⟩
      cases hy : in20 y
      focus
        obtain rfl : V = 6 := hbad.out fun h => by have := (hI.out.1 h).2; rw [hy] at this; cases this
        clear hI hnx hbad
        go_wp2_with (first | (go_at_call 14; (first | (refine Calls.mono (gw_at (boolIs (rcount_b _ _ _ _ _ _) (b := true) (by assumption))) ?_; rintro e w1 ⟨rfl, q, rfl⟩) | (refine Calls.mono (gw_at (boolIs (rcount_b _ _ _ _ _ _) (b := false) (by assumption))) ?_; rintro e w1 ⟨rfl, q, rfl⟩) | (refine Calls.mono (gw_at (rcount_b _ _ _ _ _ _)) ?_; rintro e w1 ⟨rfl, q, rfl⟩))) | (go_at_call 15; (first | (refine Calls.mono (gw_at (boolIs (rwith_b _ _) (b := true) (by assumption))) ?_; rintro e w1 ⟨rfl, q, rfl⟩) | (refine Calls.mono (gw_at (boolIs (rwith_b _ _) (b := false) (by assumption))) ?_; rintro e w1 ⟨rfl, q, rfl⟩) | (refine Calls.mono (gw_at (rwith_b _ _)) ?_; rintro e w1 ⟨rfl, q, rfl⟩))) | (go_at_call 17; refine Calls.mono (gw_at (rvsub_b _ _ _ _ _)) ?_; rintro e w1 ⟨rfl, q, rfl⟩) | (go_at_call 16; refine Calls.mono (gw_at (rvlen_b _ _ _)) ?_; rintro e w1 ⟨rfl, q, rfl⟩))
        go_ret
        exact ⟨rfl, bBel⟩
      have hg : Hid _ := hnx.out (hI.out.2 ⟨hx, hy⟩)
      clear hI hnx hbad
      go_wp2_with (first | (go_at_call 14; (first | (refine Calls.mono (gw_at (boolIs (rcount_b _ _ _ _ _ _) (b := true) (by assumption))) ?_; rintro e w1 ⟨rfl, q, rfl⟩) | (refine Calls.mono (gw_at (boolIs (rcount_b _ _ _ _ _ _) (b := false) (by assumption))) ?_; rintro e w1 ⟨rfl, q, rfl⟩) | (refine Calls.mono (gw_at (rcount_b _ _ _ _ _ _)) ?_; rintro e w1 ⟨rfl, q, rfl⟩))) | (go_at_call 15; (first | (refine Calls.mono (gw_at (boolIs (rwith_b _ _) (b := true) (by assumption))) ?_; rintro e w1 ⟨rfl, q, rfl⟩) | (refine Calls.mono (gw_at (boolIs (rwith_b _ _) (b := false) (by assumption))) ?_; rintro e w1 ⟨rfl, q, rfl⟩) | (refine Calls.mono (gw_at (rwith_b _ _)) ?_; rintro e w1 ⟨rfl, q, rfl⟩))) | (go_at_call 17; refine Calls.mono (gw_at (rvsub_b _ _ _ _ _)) ?_; rintro e w1 ⟨rfl, q, rfl⟩) | (go_at_call 16; refine Calls.mono (gw_at (rvlen_b _ _ _)) ?_; rintro e w1 ⟨rfl, q, rfl⟩))
      exact ⟨⟨k + 1, by omega, by go_num, hg.out, gw_of_below bBel⟩, by (try go_num); simp [intOf]; (try omega)⟩
    · obtain rfl : k = ps.length := by omega
      have j1 : ¬ (ps.length : Int) < (ps.length : Int) := by omega
      have hin : ∀ p ∈ ps, inrP p := fun q hq => by obtain ⟨j, hj, rfl⟩ := List.mem_iff_getElem.1 hq; exact hall j hj hj
      have hV := h7.out hin
      clear hin hall h6 h7
      rcases (by omega : K = 1 ∨ K = 2 ∨ K = 3) with rfl | rfl | rfl
      · by_cases r1 : R < 2048
        focus
          obtain rfl : V = 6 := by rw [hV, if_pos (by unfold radbad; simp [r1])]
          clear hV
          go_wp2_with fail
          go_ret
          exact ⟨rfl, bBel⟩
        by_cases r2 : 524288 < R
        focus
          obtain rfl : V = 6 := by rw [hV, if_pos (by unfold radbad; simp [r2])]
          clear hV
          go_wp2_with fail
          go_ret
          exact ⟨rfl, bBel⟩
        obtain rfl : V = 0 := by rw [hV, if_neg (by unfold radbad; simp; omega), if_neg (by unfold capbad; simp), if_neg (by unfold polbad; simp)]
        clear hV
        go_wp2_with fail
        refine wp_region_gw (by kernel_rfl) (by kernel_rfl) ?_
        repeat (go_big_quiet_step ((first | (go_at_call 14; (first | (exact gw_call (boolIs (rcount_b _ _ _ _ _ _) (b := true) (by assumption))) | (exact gw_call (boolIs (rcount_b _ _ _ _ _ _) (b := false) (by assumption))) | (exact gw_call (rcount_b _ _ _ _ _ _)))) | (go_at_call 15; (first | (exact gw_call (boolIs (rwith_b _ _) (b := true) (by assumption))) | (exact gw_call (boolIs (rwith_b _ _) (b := false) (by assumption))) | (exact gw_call (rwith_b _ _)))) | (go_at_call 17; exact gw_call (rvsub_b _ _ _ _ _)) | (go_at_call 16; exact gw_call (rvlen_b _ _ _)))))
        refine wpQuiet_nil ?_
        intro w1 hw1
        obtain ⟨q, rfl⟩ := hw1
        go_wp2_with fail
        go_ret
        exact ⟨rfl, bBel⟩
      · by_cases r1 : R < 2048
        focus
          obtain rfl : V = 6 := by rw [hV, if_pos (by unfold radbad; simp [r1])]
          clear hV
          go_wp2_with fail
          go_ret
          exact ⟨rfl, bBel⟩
        by_cases r2 : 524288 < R
        focus
          obtain rfl : V = 6 := by rw [hV, if_pos (by unfold radbad; simp [r2])]
          clear hV
          go_wp2_with fail
          go_ret
          exact ⟨rfl, bBel⟩
        have h2 : ps.length = 2 := by unfold cntok at hcnt; simp at hcnt; omega
        have hV2 : V = if vlen (sub (ps[1]'(by omega)).1 (ps[0]'(by omega)).1) (sub (ps[1]'(by omega)).2 (ps[0]'(by omega)).2) < 4096 then 12 else 0 := by
          rw [hV, if_neg (by unfold radbad; simp; omega), if_neg (c := polbad 2 ps = true) (by unfold polbad; simp)]
          unfold capbad
          rw [hp_get (by omega), hp_get (by omega)]
          simp
        clear hV
        obtain ⟨b2, off2, hA2, hc2⟩ := pts_open hP (by omega)
        subst hA2
        obtain ⟨d0, d1⟩ := hc2 p 0 (by omega)
        obtain ⟨g0, g1⟩ := hc2 p 1 (by omega)
        simp only [Nat.zero_mul, Nat.one_mul, Nat.add_zero] at d0 d1 g0 g1
        have ob := older_of_cell d0
        have q1 : (1 : Int) < (ps.length : Int) := by omega
        have q0 : (0 : Int) < (ps.length : Int) := by omega
        clear hc2 hcnt
        generalize hx0 : (ps[0]'(by omega)).1 = x0 at *
        generalize hy0 : (ps[0]'(by omega)).2 = y0 at *
        generalize hx1 : (ps[1]'(by omega)).1 = x1 at *
        generalize hy1 : (ps[1]'(by omega)).2 = y1 at *
        clear hx0 hy0 hx1 hy1
        clear h2
        by_cases hv : vlen (sub x1 x0) (sub y1 y0) < 4096
        · obtain rfl : V = 12 := by rw [hV2, if_pos hv]
          have hv2 : decide (vlen (sub x1 x0) (sub y1 y0) < 4096) = true := decide_eq_true hv
          clear hV2
          go_wp2_with fail
          refine wp_region_gw (by kernel_rfl) (by kernel_rfl) ?_
          repeat (go_big_quiet_step ((first | (go_at_call 14; (first | (exact gw_call (boolIs (rcount_b _ _ _ _ _ _) (b := true) (by assumption))) | (exact gw_call (boolIs (rcount_b _ _ _ _ _ _) (b := false) (by assumption))) | (exact gw_call (rcount_b _ _ _ _ _ _)))) | (go_at_call 15; (first | (exact gw_call (boolIs (rwith_b _ _) (b := true) (by assumption))) | (exact gw_call (boolIs (rwith_b _ _) (b := false) (by assumption))) | (exact gw_call (rwith_b _ _)))) | (go_at_call 17; exact gw_call (rvsub_b _ _ _ _ _)) | (go_at_call 16; exact gw_call (rvlen_b _ _ _)))))
          refine wpQuiet_nil ?_
          intro w1 hw1
          obtain ⟨q, rfl⟩ := hw1
          go_wp2_with fail
          go_ret
          exact ⟨rfl, bBel⟩
        · obtain rfl : V = 0 := by rw [hV2, if_neg hv]
          have hv2 : decide (vlen (sub x1 x0) (sub y1 y0) < 4096) = false := decide_eq_false hv
          clear hV2
          go_wp2_with fail
          refine wp_region_gw (by kernel_rfl) (by kernel_rfl) ?_
          repeat (go_big_quiet_step ((first | (go_at_call 14; (first | (exact gw_call (boolIs (rcount_b _ _ _ _ _ _) (b := true) (by assumption))) | (exact gw_call (boolIs (rcount_b _ _ _ _ _ _) (b := false) (by assumption))) | (exact gw_call (rcount_b _ _ _ _ _ _)))) | (go_at_call 15; (first | (exact gw_call (boolIs (rwith_b _ _) (b := true) (by assumption))) | (exact gw_call (boolIs (rwith_b _ _) (b := false) (by assumption))) | (exact gw_call (rwith_b _ _)))) | (go_at_call 17; exact gw_call (rvsub_b _ _ _ _ _)) | (go_at_call 16; exact gw_call (rvlen_b _ _ _)))))
          refine wpQuiet_nil ?_
          intro w1 hw1
          obtain ⟨q, rfl⟩ := hw1
          go_wp2_with fail
          go_ret
          exact ⟨rfl, bBel⟩
      · by_cases r1 : R = 0
        rotate_left
        · obtain rfl : V = 6 := by rw [hV, if_pos (by unfold radbad; simp [r1])]
          have b1 : (R != 0) = true := by rw [bne_iff_ne]; exact r1
          clear hV r1
          go_wp2_with fail
          go_ret
          exact ⟨rfl, bBel⟩
        subst r1
        rw [if_neg (by unfold radbad; simp), if_neg (by unfold capbad; simp)] at hV
        unfold polbad at hV
        have cV := fun w' h => rconv_b A cap ps hl w' h
        have cS := fun w' h => rshort_b A cap ps hl w' h
        have cA := fun w' h => rarea_b A cap ps hl w' h
        generalize shortP ps = S at *
        generalize areaP ps = AR at *
        cases hc : cvx ps
        focus
          rw [hc] at cV hV
          obtain rfl : V = 12 := by rw [hV]; simp
          clear hV hc
          go_wp2_with fail
          refine wp_region_gw (by kernel_rfl) (by kernel_rfl) ?_
          repeat (go_big_quiet_step ((first | (go_at_call 14; (first | (exact gw_call (boolIs (rcount_b _ _ _ _ _ _) (b := true) (by assumption))) | (exact gw_call (boolIs (rcount_b _ _ _ _ _ _) (b := false) (by assumption))) | (exact gw_call (rcount_b _ _ _ _ _ _)))) | (go_at_call 15; (first | (exact gw_call (boolIs (rwith_b _ _) (b := true) (by assumption))) | (exact gw_call (boolIs (rwith_b _ _) (b := false) (by assumption))) | (exact gw_call (rwith_b _ _)))) | (go_at_call 17; exact gw_call (rvsub_b _ _ _ _ _)) | (go_at_call 16; exact gw_call (rvlen_b _ _ _)))))
          refine wpQuiet_nil ?_
          intro w1 hw1
          obtain ⟨q, rfl⟩ := hw1
          go_wp2_with (go_at_call 18; refine Calls.mono (gw_at (cV _ (Pts.to hP bBel))) ?_; rintro e w1 ⟨rfl, q, rfl⟩)
          go_ret
          exact ⟨rfl, bBel⟩
        rw [hc] at cV hV
        by_cases s1 : S < 4096
        focus
          obtain rfl : V = 12 := by rw [hV]; simp [s1]
          clear hV hc
          go_wp2_with fail
          refine wp_region_gw (by kernel_rfl) (by kernel_rfl) ?_
          repeat (go_big_quiet_step ((first | (go_at_call 14; (first | (exact gw_call (boolIs (rcount_b _ _ _ _ _ _) (b := true) (by assumption))) | (exact gw_call (boolIs (rcount_b _ _ _ _ _ _) (b := false) (by assumption))) | (exact gw_call (rcount_b _ _ _ _ _ _)))) | (go_at_call 15; (first | (exact gw_call (boolIs (rwith_b _ _) (b := true) (by assumption))) | (exact gw_call (boolIs (rwith_b _ _) (b := false) (by assumption))) | (exact gw_call (rwith_b _ _)))) | (go_at_call 17; exact gw_call (rvsub_b _ _ _ _ _)) | (go_at_call 16; exact gw_call (rvlen_b _ _ _)))))
          refine wpQuiet_nil ?_
          intro w1 hw1
          obtain ⟨q, rfl⟩ := hw1
          go_wp2_with (first | (go_at_call 18; refine Calls.mono (gw_at (cV _ (Pts.to hP bBel))) ?_; rintro e w1 ⟨rfl, q, rfl⟩) | (go_at_call 19; refine Calls.mono (gw_at (cS _ (Pts.to hP bBel))) ?_; rintro e w1 ⟨rfl, q, rfl⟩))
          go_ret
          exact ⟨rfl, bBel⟩
        by_cases s2 : AR < 256
        focus
          obtain rfl : V = 12 := by rw [hV]; simp [s2]
          clear hV hc
          go_wp2_with fail
          refine wp_region_gw (by kernel_rfl) (by kernel_rfl) ?_
          repeat (go_big_quiet_step ((first | (go_at_call 14; (first | (exact gw_call (boolIs (rcount_b _ _ _ _ _ _) (b := true) (by assumption))) | (exact gw_call (boolIs (rcount_b _ _ _ _ _ _) (b := false) (by assumption))) | (exact gw_call (rcount_b _ _ _ _ _ _)))) | (go_at_call 15; (first | (exact gw_call (boolIs (rwith_b _ _) (b := true) (by assumption))) | (exact gw_call (boolIs (rwith_b _ _) (b := false) (by assumption))) | (exact gw_call (rwith_b _ _)))) | (go_at_call 17; exact gw_call (rvsub_b _ _ _ _ _)) | (go_at_call 16; exact gw_call (rvlen_b _ _ _)))))
          refine wpQuiet_nil ?_
          intro w1 hw1
          obtain ⟨q, rfl⟩ := hw1
          go_wp2_with (first | (go_at_call 18; refine Calls.mono (gw_at (cV _ (Pts.to hP bBel))) ?_; rintro e w1 ⟨rfl, q, rfl⟩) | (go_at_call 19; refine Calls.mono (gw_at (cS _ (Pts.to hP bBel))) ?_; rintro e w1 ⟨rfl, q, rfl⟩) | (go_at_call 20; refine Calls.mono (gw_at (cA _ (Pts.to hP bBel))) ?_; rintro e w1 ⟨rfl, q, rfl⟩))
          go_ret
          exact ⟨rfl, bBel⟩
        obtain rfl : V = 0 := by rw [hV, if_neg (by simp; omega)]
        clear hV hc
        go_wp2_with fail
        refine wp_region_gw (by kernel_rfl) (by kernel_rfl) ?_
        repeat (go_big_quiet_step ((first | (go_at_call 14; (first | (exact gw_call (boolIs (rcount_b _ _ _ _ _ _) (b := true) (by assumption))) | (exact gw_call (boolIs (rcount_b _ _ _ _ _ _) (b := false) (by assumption))) | (exact gw_call (rcount_b _ _ _ _ _ _)))) | (go_at_call 15; (first | (exact gw_call (boolIs (rwith_b _ _) (b := true) (by assumption))) | (exact gw_call (boolIs (rwith_b _ _) (b := false) (by assumption))) | (exact gw_call (rwith_b _ _)))) | (go_at_call 17; exact gw_call (rvsub_b _ _ _ _ _)) | (go_at_call 16; exact gw_call (rvlen_b _ _ _)))))
        refine wpQuiet_nil ?_
        intro w1 hw1
        obtain ⟨q, rfl⟩ := hw1
        go_wp2_with (first | (go_at_call 18; refine Calls.mono (gw_at (cV _ (Pts.to hP bBel))) ?_; rintro e w1 ⟨rfl, q, rfl⟩) | (go_at_call 19; refine Calls.mono (gw_at (cS _ (Pts.to hP bBel))) ?_; rintro e w1 ⟨rfl, q, rfl⟩) | (go_at_call 20; refine Calls.mono (gw_at (cA _ (Pts.to hP bBel))) ?_; rintro e w1 ⟨rfl, q, rfl⟩))
        go_ret
        exact ⟨rfl, bBel⟩

end Go.Proofs.Ytipcbcngedpmkaa

set_option linter.unusedVariables false
namespace Go.Proofs.Ytipcbcngedpmkaa
open Go.RowKit Fx

/-- Equal. -/
def eqS (K R : Int) (ps : List (Int × Int)) (K' R' : Int) (qs : List (Int × Int)) : Bool := decide (K = K') && decide (R = R') && decide (ps = qs)

theorem map_take {f : Int × Int → Int × Int} {ps : List (Int × Int)} {k : Nat} (h : k < ps.length) : (ps.map f).take (k + 1) = (ps.map f).take k ++ [f ps[k]] := by
  rw [List.take_add_one, List.getElem?_map, List.getElem?_eq_getElem h]; rfl
theorem blk_to {w w' : World} {b : Nat} {c : Array Value} {t : TypeId} (h : blk w b c t) (hb : Below w.heap.size w w') : blk w' b c t := (hb.block b (blk_lt h)).trans h

end Go.Proofs.Ytipcbcngedpmkaa

set_option linter.unusedVariables false
namespace Go.Proofs.Ytipcbcngedpmkaa
open Go.RowKit Fx

/-- A shape handed back: its own vertices. -/
def ShapeR (w : World) (K R : Int) (ps : List (Int × Int)) (e : Ending) (w' : World) : Prop := (∃ A' cap', e = .returned (.agg #[.int .i64 K, .int .i64 R, .slice A' ps.length cap']) ∧ ps.length ≤ cap' ∧ cap' ≤ maxLen ∧ Pts w' A' ps ∧ (ps = [] ∨ ∃ b off, A' = some ⟨b, off, none⟩ ∧ w.heap.size ≤ b)) ∧ Below w.heap.size w w'

end Go.Proofs.Ytipcbcngedpmkaa

set_option linter.unusedVariables false
namespace Go.Proofs.Ytipcbcngedpmkaa
open Go.RowKit Fx

/-- The box of a list's beginning. -/
def bxk (L : List (Int × Int)) (k : Nat) : Bx := Bx.pts (L.take (max k 1))
theorem bxk_step {L : List (Int × Int)} (hs : ∀ p ∈ L, sat p.1 = p.1 ∧ sat p.2 = p.2) {k : Nat} (h : k < L.length) : bxk L (k + 1) = ⟨min (bxk L k).x0 L[k].1, min (bxk L k).y0 L[k].2, max (bxk L k).x1 L[k].1, max (bxk L k).y1 L[k].2⟩ := by
  obtain ⟨s1, s2⟩ := hs _ (List.getElem_mem h)
  rcases Nat.eq_zero_or_pos k with rfl | h0
  · show Bx.pts (L.take 1) = _
    unfold bxk
    rw [show max 0 1 = 1 from rfl, Bx.pts_one h]
    unfold Bx.one
    rw [s1, s2]
    simp
  · unfold bxk
    rw [show max (k + 1) 1 = k + 1 from by omega, show max k 1 = k from by omega, Bx.pts_succ (by omega) h]
    unfold Bx.step
    rw [s1, s2]
theorem bxk_zero {L : List (Int × Int)} (hs : ∀ p ∈ L, sat p.1 = p.1 ∧ sat p.2 = p.2) (h : 0 < L.length) : bxk L 0 = ⟨L[0].1, L[0].2, L[0].1, L[0].2⟩ := by
  obtain ⟨s1, s2⟩ := hs _ (List.getElem_mem h)
  unfold bxk
  rw [show max 0 1 = 1 from rfl, Bx.pts_one h]
  unfold Bx.one
  rw [s1, s2]
theorem bxk_end {L : List (Int × Int)} (h : 0 < L.length) : bxk L L.length = Bx.pts L := by
  unfold bxk; rw [show max L.length 1 = L.length from by omega, List.take_length]
theorem core_sat {ps : List (Int × Int)} {px py a : Int} : ∀ p ∈ ps.map (tr px py a), sat p.1 = p.1 ∧ sat p.2 = p.2 := fun p hp => by
  obtain ⟨q, _, rfl⟩ := List.mem_map.1 hp
  exact ⟨(add_sat' _ _).symm, (add_sat' _ _).symm⟩

end Go.Proofs.Ytipcbcngedpmkaa

set_option linter.unusedVariables false
namespace Go.Proofs.Ytipcbcngedpmkaa
open Go.RowKit Fx

theorem supP_at {L : List (Int × Int)} (dx dy : Int) (h : 0 < L.length) : ∃ j : Nat, j < L.length ∧ supP L dx dy = (j : Int) := by
  obtain ⟨j, hj, e, _⟩ := sup_spec L dx dy L.length h
  exact ⟨j, hj, by unfold supP; rw [e]⟩

theorem or3_sgn (p q : Int × Int) (x y : Int) : or3 p q (x, y) < 0 ↔ or3 p q (x, y) = -1 := by
  have := or_ge p.1 p.2 q.1 q.2 x y
  unfold or3; dsimp only; omega

end Go.Proofs.Ytipcbcngedpmkaa
