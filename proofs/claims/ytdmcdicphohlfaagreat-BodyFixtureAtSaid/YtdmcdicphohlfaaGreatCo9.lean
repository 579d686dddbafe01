/- Contracts of the reference of chapter 12: validation.
Contracts of the reference of chapter 12, continued: equality, copies, transformed vertices.
Contracts of the reference of chapter 12, continued: copies, bounds, bounding radius.
Contracts of the reference of chapter 12, continued: bounds, support, containment.
Contracts of the reference of chapter 12, continued: support, containment. -/
import Derived.Test.YtdmcdicphohlfaaGreatMa5
import Derived.Test.YtdmcdicphohlfaaGreatCo3
import Derived.Test.YtdmcdicphohlfaaGreatCo5
import Derived.Test.YtdmcdicphohlfaaGreatSh1
import Derived.Test.YtdmcdicphohlfaaGreatKi1
import Derived.Test.YtdmcdicphohlfaaGreatKi3

set_option linter.unusedVariables false
namespace Go.Proofs.YtdmcdicphohlfaaGreat
open Go.RowKit Fx

def in20 (x : Int) : Bool := decide (-1048576 ≤ x) && decide (x ≤ 1048576)
theorem in20_inr {p : Int × Int} : inrP p ↔ in20 p.1 = true ∧ in20 p.2 = true := by
  unfold inrP in20; simp only [Bool.and_eq_true, decide_eq_true_eq]; exact ⟨fun h => ⟨⟨h.1, h.2.1⟩, h.2.2.1, h.2.2.2⟩, fun h => ⟨h.1.1, h.1.2, h.2.1, h.2.2⟩⟩

theorem rwith_b (x : Int) (w : World) : Calls Tryz.prog 129 #[.int .i64 x, .int .i64 1048576] w fun e w' => e = .returned (.bool (in20 x)) ∧ Below w.heap.size w w' := by
  go_enter Tryz.func129, Tryz.ntmps129
  go_wp2_with fail
  all_goals (go_ret; refine ⟨?_, bBel⟩; first | rfl | (simp [in20]; done) | (simp [in20]; omega) | (simp [in20]; rw [Bool.eq_iff_iff]; first | (simp; done) | (simp; omega)))

theorem rcount_b (K R : Int) (A : Option Addr) (cap n : Nat) (w : World) : Calls Tryz.prog 128 #[.agg #[.int .i64 K, .int .i64 R, .slice A n cap]] w fun e w' => e = .returned (.bool (cntok K n)) ∧ Below w.heap.size w w' := by
  by_cases h3 : K = 3
  · subst h3
    go_enter Tryz.func128, Tryz.ntmps128
    go_wp2_with fail
    all_goals (go_ret; refine ⟨?_, bBel⟩; first | rfl | (simp [cntok]; done) | (simp [cntok]; omega) | (simp [cntok]; rw [Bool.eq_iff_iff]; first | (simp; done) | (simp; omega)))
  · have b3 : (K == 3) = false := by rw [beq_eq_false_iff_ne]; exact h3
    have e : cntok K n = ((n : Int) == K) := by unfold cntok; rw [if_neg h3, Bool.eq_iff_iff]; simp
    rw [e]
    go_enter Tryz.func128, Tryz.ntmps128
    go_wp2_with fail
    go_ret
    exact ⟨rfl, bBel⟩

set_option maxRecDepth 100000 in
set_option maxHeartbeats 8000000 in
theorem rval_b (K R : Int) (A : Option Addr) (cap : Nat) (ps : List (Int × Int)) (hl : ps.length ≤ 4611686018427387904) (w : World) (hp : Pts w A ps) : Calls Tryz.prog 62 #[.agg #[.int .i64 K, .int .i64 R, .slice A ps.length cap]] w fun e w' => e = .returned (.int .i64 (valS K R ps)) ∧ Below w.heap.size w w' := by
  obtain ⟨V, hV⟩ : ∃ V, valS K R ps = V := ⟨_, rfl⟩
  rw [hV]
  by_cases hK1 : K < 1
  focus
    obtain rfl : V = 10 := by rw [← hV]; unfold valS; rw [if_pos (.inl hK1)]
    go_enter Tryz.func62, Tryz.ntmps62
    go_wp2_with (first | (go_at_call 128; (first | (refine Calls.mono (gw_at (boolIs (rcount_b _ _ _ _ _ _) (b := true) (by assumption))) ?_; rintro e w1 ⟨rfl, q, rfl⟩) | (refine Calls.mono (gw_at (boolIs (rcount_b _ _ _ _ _ _) (b := false) (by assumption))) ?_; rintro e w1 ⟨rfl, q, rfl⟩) | (refine Calls.mono (gw_at (rcount_b _ _ _ _ _ _)) ?_; rintro e w1 ⟨rfl, q, rfl⟩))) | (go_at_call 129; (first | (refine Calls.mono (gw_at (boolIs (rwith_b _ _) (b := true) (by assumption))) ?_; rintro e w1 ⟨rfl, q, rfl⟩) | (refine Calls.mono (gw_at (boolIs (rwith_b _ _) (b := false) (by assumption))) ?_; rintro e w1 ⟨rfl, q, rfl⟩) | (refine Calls.mono (gw_at (rwith_b _ _)) ?_; rintro e w1 ⟨rfl, q, rfl⟩))) | (go_at_call 79; refine Calls.mono (gw_at (rvsub_b _ _ _ _ _)) ?_; rintro e w1 ⟨rfl, q, rfl⟩) | (go_at_call 130; refine Calls.mono (gw_at (rvlen_b _ _ _)) ?_; rintro e w1 ⟨rfl, q, rfl⟩))
    repeat
      refine wp_region_gw (by kernel_rfl) (by kernel_rfl) ?_
      repeat (go_big_quiet_step ((first | (go_at_call 128; (first | (exact gw_call (boolIs (rcount_b _ _ _ _ _ _) (b := true) (by assumption))) | (exact gw_call (boolIs (rcount_b _ _ _ _ _ _) (b := false) (by assumption))) | (exact gw_call (rcount_b _ _ _ _ _ _)))) | (go_at_call 129; (first | (exact gw_call (boolIs (rwith_b _ _) (b := true) (by assumption))) | (exact gw_call (boolIs (rwith_b _ _) (b := false) (by assumption))) | (exact gw_call (rwith_b _ _)))) | (go_at_call 79; exact gw_call (rvsub_b _ _ _ _ _)) | (go_at_call 130; exact gw_call (rvlen_b _ _ _)))))
      refine wpQuiet_nil ?_
      intro w1 hw1
      obtain ⟨q, rfl⟩ := hw1
      go_wp2_with (first | (go_at_call 128; (first | (refine Calls.mono (gw_at (boolIs (rcount_b _ _ _ _ _ _) (b := true) (by assumption))) ?_; rintro e w1 ⟨rfl, q, rfl⟩) | (refine Calls.mono (gw_at (boolIs (rcount_b _ _ _ _ _ _) (b := false) (by assumption))) ?_; rintro e w1 ⟨rfl, q, rfl⟩) | (refine Calls.mono (gw_at (rcount_b _ _ _ _ _ _)) ?_; rintro e w1 ⟨rfl, q, rfl⟩))) | (go_at_call 129; (first | (refine Calls.mono (gw_at (boolIs (rwith_b _ _) (b := true) (by assumption))) ?_; rintro e w1 ⟨rfl, q, rfl⟩) | (refine Calls.mono (gw_at (boolIs (rwith_b _ _) (b := false) (by assumption))) ?_; rintro e w1 ⟨rfl, q, rfl⟩) | (refine Calls.mono (gw_at (rwith_b _ _)) ?_; rintro e w1 ⟨rfl, q, rfl⟩))) | (go_at_call 79; refine Calls.mono (gw_at (rvsub_b _ _ _ _ _)) ?_; rintro e w1 ⟨rfl, q, rfl⟩) | (go_at_call 130; refine Calls.mono (gw_at (rvlen_b _ _ _)) ?_; rintro e w1 ⟨rfl, q, rfl⟩))
    go_ret
    exact ⟨rfl, bBel⟩
  by_cases hK3 : 3 < K
  focus
    obtain rfl : V = 10 := by rw [← hV]; unfold valS; rw [if_pos (.inr hK3)]
    go_enter Tryz.func62, Tryz.ntmps62
    go_wp2_with (first | (go_at_call 128; (first | (refine Calls.mono (gw_at (boolIs (rcount_b _ _ _ _ _ _) (b := true) (by assumption))) ?_; rintro e w1 ⟨rfl, q, rfl⟩) | (refine Calls.mono (gw_at (boolIs (rcount_b _ _ _ _ _ _) (b := false) (by assumption))) ?_; rintro e w1 ⟨rfl, q, rfl⟩) | (refine Calls.mono (gw_at (rcount_b _ _ _ _ _ _)) ?_; rintro e w1 ⟨rfl, q, rfl⟩))) | (go_at_call 129; (first | (refine Calls.mono (gw_at (boolIs (rwith_b _ _) (b := true) (by assumption))) ?_; rintro e w1 ⟨rfl, q, rfl⟩) | (refine Calls.mono (gw_at (boolIs (rwith_b _ _) (b := false) (by assumption))) ?_; rintro e w1 ⟨rfl, q, rfl⟩) | (refine Calls.mono (gw_at (rwith_b _ _)) ?_; rintro e w1 ⟨rfl, q, rfl⟩))) | (go_at_call 79; refine Calls.mono (gw_at (rvsub_b _ _ _ _ _)) ?_; rintro e w1 ⟨rfl, q, rfl⟩) | (go_at_call 130; refine Calls.mono (gw_at (rvlen_b _ _ _)) ?_; rintro e w1 ⟨rfl, q, rfl⟩))
    repeat
      refine wp_region_gw (by kernel_rfl) (by kernel_rfl) ?_
      repeat (go_big_quiet_step ((first | (go_at_call 128; (first | (exact gw_call (boolIs (rcount_b _ _ _ _ _ _) (b := true) (by assumption))) | (exact gw_call (boolIs (rcount_b _ _ _ _ _ _) (b := false) (by assumption))) | (exact gw_call (rcount_b _ _ _ _ _ _)))) | (go_at_call 129; (first | (exact gw_call (boolIs (rwith_b _ _) (b := true) (by assumption))) | (exact gw_call (boolIs (rwith_b _ _) (b := false) (by assumption))) | (exact gw_call (rwith_b _ _)))) | (go_at_call 79; exact gw_call (rvsub_b _ _ _ _ _)) | (go_at_call 130; exact gw_call (rvlen_b _ _ _)))))
      refine wpQuiet_nil ?_
      intro w1 hw1
      obtain ⟨q, rfl⟩ := hw1
      go_wp2_with (first | (go_at_call 128; (first | (refine Calls.mono (gw_at (boolIs (rcount_b _ _ _ _ _ _) (b := true) (by assumption))) ?_; rintro e w1 ⟨rfl, q, rfl⟩) | (refine Calls.mono (gw_at (boolIs (rcount_b _ _ _ _ _ _) (b := false) (by assumption))) ?_; rintro e w1 ⟨rfl, q, rfl⟩) | (refine Calls.mono (gw_at (rcount_b _ _ _ _ _ _)) ?_; rintro e w1 ⟨rfl, q, rfl⟩))) | (go_at_call 129; (first | (refine Calls.mono (gw_at (boolIs (rwith_b _ _) (b := true) (by assumption))) ?_; rintro e w1 ⟨rfl, q, rfl⟩) | (refine Calls.mono (gw_at (boolIs (rwith_b _ _) (b := false) (by assumption))) ?_; rintro e w1 ⟨rfl, q, rfl⟩) | (refine Calls.mono (gw_at (rwith_b _ _)) ?_; rintro e w1 ⟨rfl, q, rfl⟩))) | (go_at_call 79; refine Calls.mono (gw_at (rvsub_b _ _ _ _ _)) ?_; rintro e w1 ⟨rfl, q, rfl⟩) | (go_at_call 130; refine Calls.mono (gw_at (rvlen_b _ _ _)) ?_; rintro e w1 ⟨rfl, q, rfl⟩))
    go_ret
    exact ⟨rfl, bBel⟩
  cases hcnt : cntok K ps.length
  focus
    obtain rfl : V = 11 := by rw [← hV]; unfold valS; rw [if_neg (by omega), if_pos hcnt]
    go_enter Tryz.func62, Tryz.ntmps62
    go_wp2_with (first | (go_at_call 128; (first | (refine Calls.mono (gw_at (boolIs (rcount_b _ _ _ _ _ _) (b := true) (by assumption))) ?_; rintro e w1 ⟨rfl, q, rfl⟩) | (refine Calls.mono (gw_at (boolIs (rcount_b _ _ _ _ _ _) (b := false) (by assumption))) ?_; rintro e w1 ⟨rfl, q, rfl⟩) | (refine Calls.mono (gw_at (rcount_b _ _ _ _ _ _)) ?_; rintro e w1 ⟨rfl, q, rfl⟩))) | (go_at_call 129; (first | (refine Calls.mono (gw_at (boolIs (rwith_b _ _) (b := true) (by assumption))) ?_; rintro e w1 ⟨rfl, q, rfl⟩) | (refine Calls.mono (gw_at (boolIs (rwith_b _ _) (b := false) (by assumption))) ?_; rintro e w1 ⟨rfl, q, rfl⟩) | (refine Calls.mono (gw_at (rwith_b _ _)) ?_; rintro e w1 ⟨rfl, q, rfl⟩))) | (go_at_call 79; refine Calls.mono (gw_at (rvsub_b _ _ _ _ _)) ?_; rintro e w1 ⟨rfl, q, rfl⟩) | (go_at_call 130; refine Calls.mono (gw_at (rvlen_b _ _ _)) ?_; rintro e w1 ⟨rfl, q, rfl⟩))
    repeat
      refine wp_region_gw (by kernel_rfl) (by kernel_rfl) ?_
      repeat (go_big_quiet_step ((first | (go_at_call 128; (first | (exact gw_call (boolIs (rcount_b _ _ _ _ _ _) (b := true) (by assumption))) | (exact gw_call (boolIs (rcount_b _ _ _ _ _ _) (b := false) (by assumption))) | (exact gw_call (rcount_b _ _ _ _ _ _)))) | (go_at_call 129; (first | (exact gw_call (boolIs (rwith_b _ _) (b := true) (by assumption))) | (exact gw_call (boolIs (rwith_b _ _) (b := false) (by assumption))) | (exact gw_call (rwith_b _ _)))) | (go_at_call 79; exact gw_call (rvsub_b _ _ _ _ _)) | (go_at_call 130; exact gw_call (rvlen_b _ _ _)))))
      refine wpQuiet_nil ?_
      intro w1 hw1
      obtain ⟨q, rfl⟩ := hw1
      go_wp2_with (first | (go_at_call 128; (first | (refine Calls.mono (gw_at (boolIs (rcount_b _ _ _ _ _ _) (b := true) (by assumption))) ?_; rintro e w1 ⟨rfl, q, rfl⟩) | (refine Calls.mono (gw_at (boolIs (rcount_b _ _ _ _ _ _) (b := false) (by assumption))) ?_; rintro e w1 ⟨rfl, q, rfl⟩) | (refine Calls.mono (gw_at (rcount_b _ _ _ _ _ _)) ?_; rintro e w1 ⟨rfl, q, rfl⟩))) | (go_at_call 129; (first | (refine Calls.mono (gw_at (boolIs (rwith_b _ _) (b := true) (by assumption))) ?_; rintro e w1 ⟨rfl, q, rfl⟩) | (refine Calls.mono (gw_at (boolIs (rwith_b _ _) (b := false) (by assumption))) ?_; rintro e w1 ⟨rfl, q, rfl⟩) | (refine Calls.mono (gw_at (rwith_b _ _)) ?_; rintro e w1 ⟨rfl, q, rfl⟩))) | (go_at_call 79; refine Calls.mono (gw_at (rvsub_b _ _ _ _ _)) ?_; rintro e w1 ⟨rfl, q, rfl⟩) | (go_at_call 130; refine Calls.mono (gw_at (rvlen_b _ _ _)) ?_; rintro e w1 ⟨rfl, q, rfl⟩))
    go_ret
    exact ⟨rfl, bBel⟩
  have h6 : Hid (¬ (∀ p ∈ ps, inrP p) → V = 6) := fun h => by rw [← hV]; unfold valS; rw [if_neg (by omega), if_neg (by rw [hcnt]; decide), if_pos h]
  have h7 : Hid ((∀ p ∈ ps, inrP p) → V = if radbad K R = true then 6 else if capbad K ps = true then 12 else if polbad K ps = true then 12 else 0) := fun h => by rw [← hV]; unfold valS; rw [if_neg (by omega), if_neg (by rw [hcnt]; decide), if_neg (fun h' => h' h)]
  clear hV
  go_enter Tryz.func62, Tryz.ntmps62
  go_wp2_with (first | (go_at_call 128; (first | (refine Calls.mono (gw_at (boolIs (rcount_b _ _ _ _ _ _) (b := true) (by assumption))) ?_; rintro e w1 ⟨rfl, q, rfl⟩) | (refine Calls.mono (gw_at (boolIs (rcount_b _ _ _ _ _ _) (b := false) (by assumption))) ?_; rintro e w1 ⟨rfl, q, rfl⟩) | (refine Calls.mono (gw_at (rcount_b _ _ _ _ _ _)) ?_; rintro e w1 ⟨rfl, q, rfl⟩))) | (go_at_call 129; (first | (refine Calls.mono (gw_at (boolIs (rwith_b _ _) (b := true) (by assumption))) ?_; rintro e w1 ⟨rfl, q, rfl⟩) | (refine Calls.mono (gw_at (boolIs (rwith_b _ _) (b := false) (by assumption))) ?_; rintro e w1 ⟨rfl, q, rfl⟩) | (refine Calls.mono (gw_at (rwith_b _ _)) ?_; rintro e w1 ⟨rfl, q, rfl⟩))) | (go_at_call 79; refine Calls.mono (gw_at (rvsub_b _ _ _ _ _)) ?_; rintro e w1 ⟨rfl, q, rfl⟩) | (go_at_call 130; refine Calls.mono (gw_at (rvlen_b _ _ _)) ?_; rintro e w1 ⟨rfl, q, rfl⟩))
  refine wp_named ?_
  intro W hW
  have kB : blk W w.heap.size #[.int .i64 K, .int .i64 R, .slice A ps.length cap] 33 := by rw [hW]; exact bBkn
  have hbW : Below w.heap.size w W := by rw [hW]; exact bBel
  clear hW
  have hP : Pts W A ps := Pts.to hp hbW
  have hszW := hbW.size
  have okB := blk_older kB
  have ckB_0 : _ = some _ := blk_cell kB 0
  have ckB_1 : _ = some _ := blk_cell kB 1
  have ckB_2 : _ = some _ := blk_cell kB 2
  have fkB_0 := blk_free kB 0
  have fkB_1 := blk_free kB 1
  have fkB_2 := blk_free kB 2
  go_loopw [3] (fun i wr => ∃ k : Nat, k ≤ ps.length ∧ i = .int .i64 (k : Int) ∧ (∀ j (h : j < ps.length), j < k → inrP ps[j]) ∧ ∃ p, wr = gw W p)
    (fun i _ => (ps.length - intOf i).toNat)
  case atStart => exact ⟨0, by omega, rfl, by omega, ⟨⟨W.drawn, #[]⟩, (gw_zero W).symm⟩⟩
  case round =>
    obtain ⟨k, hk, rfl, hall, p, rfl⟩ := hrel
    by_cases hlt : k < ps.length
    · have j0 : (0 : Int) ≤ (k : Int) := by omega
      have j1 : (k : Int) < (ps.length : Int) := by omega
      obtain ⟨b2, off2, hA2, hc2⟩ := pts_open hP (by omega)
      subst hA2
      obtain ⟨d0, d1⟩ := hc2 p k hlt
      have ob := older_of_cell d0
      clear hc2
      have hI : Hid (inrP ps[k] ↔ in20 ps[k].1 = true ∧ in20 ps[k].2 = true) := in20_inr
      have hnx : Hid (inrP ps[k] → ∀ j (h : j < ps.length), j < k + 1 → inrP ps[j]) := fun h j hj hjk => by
        rcases (by omega : j < k ∨ j = k) with h4 | rfl
        · exact hall j hj h4
        · exact h
      have hbad : Hid (¬ inrP ps[k] → V = 6) := fun h => h6.out fun h' => h (h' _ (List.getElem_mem hlt))
      clear hall h6 h7
      generalize ps[k].1 = x at *
      generalize ps[k].2 = y at *
      cases hx : in20 x
      focus
        obtain rfl : V = 6 := hbad.out fun h => by have := (hI.out.1 h).1; rw [hx] at this; cases this
        clear hI hnx hbad
        go_wp2_with (first | (go_at_call 128; (first | (refine Calls.mono (gw_at (boolIs (rcount_b _ _ _ _ _ _) (b := true) (by assumption))) ?_; rintro e w1 ⟨rfl, q, rfl⟩) | (refine Calls.mono (gw_at (boolIs (rcount_b _ _ _ _ _ _) (b := false) (by assumption))) ?_; rintro e w1 ⟨rfl, q, rfl⟩) | (refine Calls.mono (gw_at (rcount_b _ _ _ _ _ _)) ?_; rintro e w1 ⟨rfl, q, rfl⟩))) | (go_at_call 129; (first | (refine Calls.mono (gw_at (boolIs (rwith_b _ _) (b := true) (by assumption))) ?_; rintro e w1 ⟨rfl, q, rfl⟩) | (refine Calls.mono (gw_at (boolIs (rwith_b _ _) (b := false) (by assumption))) ?_; rintro e w1 ⟨rfl, q, rfl⟩) | (refine Calls.mono (gw_at (rwith_b _ _)) ?_; rintro e w1 ⟨rfl, q, rfl⟩))) | (go_at_call 79; refine Calls.mono (gw_at (rvsub_b _ _ _ _ _)) ?_; rintro e w1 ⟨rfl, q, rfl⟩) | (go_at_call 130; refine Calls.mono (gw_at (rvlen_b _ _ _)) ?_; rintro e w1 ⟨rfl, q, rfl⟩))
        go_ret
        exact ⟨rfl, bBel⟩
      cases hy : in20 y
      focus
        obtain rfl : V = 6 := hbad.out fun h => by have := (hI.out.1 h).2; rw [hy] at this; cases this
        clear hI hnx hbad
        go_wp2_with (first | (go_at_call 128; (first | (refine Calls.mono (gw_at (boolIs (rcount_b _ _ _ _ _ _) (b := true) (by assumption))) ?_; rintro e w1 ⟨rfl, q, rfl⟩) | (refine Calls.mono (gw_at (boolIs (rcount_b _ _ _ _ _ _) (b := false) (by assumption))) ?_; rintro e w1 ⟨rfl, q, rfl⟩) | (refine Calls.mono (gw_at (rcount_b _ _ _ _ _ _)) ?_; rintro e w1 ⟨rfl, q, rfl⟩))) | (go_at_call 129; (first | (refine Calls.mono (gw_at (boolIs (rwith_b _ _) (b := true) (by assumption))) ?_; rintro e w1 ⟨rfl, q, rfl⟩) | (refine Calls.mono (gw_at (boolIs (rwith_b _ _) (b := false) (by assumption))) ?_; rintro e w1 ⟨rfl, q, rfl⟩) | (refine Calls.mono (gw_at (rwith_b _ _)) ?_; rintro e w1 ⟨rfl, q, rfl⟩))) | (go_at_call 79; refine Calls.mono (gw_at (rvsub_b _ _ _ _ _)) ?_; rintro e w1 ⟨rfl, q, rfl⟩) | (go_at_call 130; refine Calls.mono (gw_at (rvlen_b _ _ _)) ?_; rintro e w1 ⟨rfl, q, rfl⟩))
        go_ret
        exact ⟨rfl, bBel⟩
      have hg : Hid _ := hnx.out (hI.out.2 ⟨hx, hy⟩)
      clear hI hnx hbad
      go_wp2_with (first | (go_at_call 128; (first | (refine Calls.mono (gw_at (boolIs (rcount_b _ _ _ _ _ _) (b := true) (by assumption))) ?_; rintro e w1 ⟨rfl, q, rfl⟩) | (refine Calls.mono (gw_at (boolIs (rcount_b _ _ _ _ _ _) (b := false) (by assumption))) ?_; rintro e w1 ⟨rfl, q, rfl⟩) | (refine Calls.mono (gw_at (rcount_b _ _ _ _ _ _)) ?_; rintro e w1 ⟨rfl, q, rfl⟩))) | (go_at_call 129; (first | (refine Calls.mono (gw_at (boolIs (rwith_b _ _) (b := true) (by assumption))) ?_; rintro e w1 ⟨rfl, q, rfl⟩) | (refine Calls.mono (gw_at (boolIs (rwith_b _ _) (b := false) (by assumption))) ?_; rintro e w1 ⟨rfl, q, rfl⟩) | (refine Calls.mono (gw_at (rwith_b _ _)) ?_; rintro e w1 ⟨rfl, q, rfl⟩))) | (go_at_call 79; refine Calls.mono (gw_at (rvsub_b _ _ _ _ _)) ?_; rintro e w1 ⟨rfl, q, rfl⟩) | (go_at_call 130; refine Calls.mono (gw_at (rvlen_b _ _ _)) ?_; rintro e w1 ⟨rfl, q, rfl⟩))
      exact ⟨⟨k + 1, by omega, by go_num, hg.out, gw_of_below bBel⟩, by (try go_num); simp [intOf]; (try omega)⟩
    · obtain rfl : k = ps.length := by omega
      have j1 : ¬ (ps.length : Int) < (ps.length : Int) := by omega
      have hin : ∀ p ∈ ps, inrP p := fun q hq => by obtain ⟨j, hj, rfl⟩ := List.mem_iff_getElem.1 hq; exact hall j hj hj
      have hV := h7.out hin
      clear hin hall h6 h7
      rcases (by omega : K = 1 ∨ K = 2 ∨ K = 3) with rfl | rfl | rfl
      · by_cases r1 : R < 2048
        focus
          obtain rfl : V = 6 := by rw [hV, if_pos (by unfold radbad; simp [r1])]
          clear hV
          go_wp2_with fail
          go_ret
          exact ⟨rfl, bBel⟩
        by_cases r2 : 524288 < R
        focus
          obtain rfl : V = 6 := by rw [hV, if_pos (by unfold radbad; simp [r2])]
          clear hV
          go_wp2_with fail
          go_ret
          exact ⟨rfl, bBel⟩
        obtain rfl : V = 0 := by rw [hV, if_neg (by unfold radbad; simp; omega), if_neg (by unfold capbad; simp), if_neg (by unfold polbad; simp)]
        clear hV
        go_wp2_with fail
        refine wp_region_gw (by kernel_rfl) (by kernel_rfl) ?_
        repeat (go_big_quiet_step ((first | (go_at_call 128; (first | (exact gw_call (boolIs (rcount_b _ _ _ _ _ _) (b := true) (by assumption))) | (exact gw_call (boolIs (rcount_b _ _ _ _ _ _) (b := false) (by assumption))) | (exact gw_call (rcount_b _ _ _ _ _ _)))) | (go_at_call 129; (first | (exact gw_call (boolIs (rwith_b _ _) (b := true) (by assumption))) | (exact gw_call (boolIs (rwith_b _ _) (b := false) (by assumption))) | (exact gw_call (rwith_b _ _)))) | (go_at_call 79; exact gw_call (rvsub_b _ _ _ _ _)) | (go_at_call 130; exact gw_call (rvlen_b _ _ _)))))
        refine wpQuiet_nil ?_
        intro w1 hw1
        obtain ⟨q, rfl⟩ := hw1
        go_wp2_with fail
        go_ret
        exact ⟨rfl, bBel⟩
      · by_cases r1 : R < 2048
        focus
          obtain rfl : V = 6 := by rw [hV, if_pos (by unfold radbad; simp [r1])]
          clear hV
          go_wp2_with fail
          go_ret
          exact ⟨rfl, bBel⟩
        by_cases r2 : 524288 < R
        focus
          obtain rfl : V = 6 := by rw [hV, if_pos (by unfold radbad; simp [r2])]
          clear hV
          go_wp2_with fail
          go_ret
          exact ⟨rfl, bBel⟩
        have h2 : ps.length = 2 := by unfold cntok at hcnt; simp at hcnt; omega
        have hV2 : V = if vlen (sub (ps[1]'(by omega)).1 (ps[0]'(by omega)).1) (sub (ps[1]'(by omega)).2 (ps[0]'(by omega)).2) < 4096 then 12 else 0 := by
          rw [hV, if_neg (by unfold radbad; simp; omega), if_neg (c := polbad 2 ps = true) (by unfold polbad; simp)]
          unfold capbad
          rw [hp_get (by omega), hp_get (by omega)]
          simp
        clear hV
        obtain ⟨b2, off2, hA2, hc2⟩ := pts_open hP (by omega)
        subst hA2
        obtain ⟨d0, d1⟩ := hc2 p 0 (by omega)
        obtain ⟨g0, g1⟩ := hc2 p 1 (by omega)
        simp only [Nat.zero_mul, Nat.one_mul, Nat.add_zero] at d0 d1 g0 g1
        have ob := older_of_cell d0
        have q1 : (1 : Int) < (ps.length : Int) := by omega
        have q0 : (0 : Int) < (ps.length : Int) := by omega
        clear hc2 hcnt
        generalize hx0 : (ps[0]'(by omega)).1 = x0 at *
        generalize hy0 : (ps[0]'(by omega)).2 = y0 at *
        generalize hx1 : (ps[1]'(by omega)).1 = x1 at *
        generalize hy1 : (ps[1]'(by omega)).2 = y1 at *
        clear hx0 hy0 hx1 hy1
        clear h2
        by_cases hv : vlen (sub x1 x0) (sub y1 y0) < 4096
        · obtain rfl : V = 12 := by rw [hV2, if_pos hv]
          have hv2 : decide (vlen (sub x1 x0) (sub y1 y0) < 4096) = true := decide_eq_true hv
          clear hV2
          go_wp2_with fail
          refine wp_region_gw (by kernel_rfl) (by kernel_rfl) ?_
          repeat (go_big_quiet_step ((first | (go_at_call 128; (first | (exact gw_call (boolIs (rcount_b _ _ _ _ _ _) (b := true) (by assumption))) | (exact gw_call (boolIs (rcount_b _ _ _ _ _ _) (b := false) (by assumption))) | (exact gw_call (rcount_b _ _ _ _ _ _)))) | (go_at_call 129; (first | (exact gw_call (boolIs (rwith_b _ _) (b := true) (by assumption))) | (exact gw_call (boolIs (rwith_b _ _) (b := false) (by assumption))) | (exact gw_call (rwith_b _ _)))) | (go_at_call 79; exact gw_call (rvsub_b _ _ _ _ _)) | (go_at_call 130; exact gw_call (rvlen_b _ _ _)))))
          refine wpQuiet_nil ?_
          intro w1 hw1
          obtain ⟨q, rfl⟩ := hw1
          go_wp2_with fail
          go_ret
          exact ⟨rfl, bBel⟩
        · obtain rfl : V = 0 := by rw [hV2, if_neg hv]
          have hv2 : decide (vlen (sub x1 x0) (sub y1 y0) < 4096) = false := decide_eq_false hv
          clear hV2
          go_wp2_with fail
          refine wp_region_gw (by kernel_rfl) (by kernel_rfl) ?_
          repeat (go_big_quiet_step ((first | (go_at_call 128; (first | (exact gw_call (boolIs (rcount_b _ _ _ _ _ _) (b := true) (by assumption))) | (exact gw_call (boolIs (rcount_b _ _ _ _ _ _) (b := false) (by assumption))) | (exact gw_call (rcount_b _ _ _ _ _ _)))) | (go_at_call 129; (first | (exact gw_call (boolIs (rwith_b _ _) (b := true) (by assumption))) | (exact gw_call (boolIs (rwith_b _ _) (b := false) (by assumption))) | (exact gw_call (rwith_b _ _)))) | (go_at_call 79; exact gw_call (rvsub_b _ _ _ _ _)) | (go_at_call 130; exact gw_call (rvlen_b _ _ _)))))
          refine wpQuiet_nil ?_
          intro w1 hw1
          obtain ⟨q, rfl⟩ := hw1
          go_wp2_with fail
          go_ret
          exact ⟨rfl, bBel⟩
      · by_cases r1 : R = 0
        rotate_left
        · obtain rfl : V = 6 := by rw [hV, if_pos (by unfold radbad; simp [r1])]
          have b1 : (R != 0) = true := by rw [bne_iff_ne]; exact r1
          clear hV r1
          go_wp2_with fail
          go_ret
          exact ⟨rfl, bBel⟩
        subst r1
        rw [if_neg (by unfold radbad; simp), if_neg (by unfold capbad; simp)] at hV
        unfold polbad at hV
        have cV := fun w' h => rconv_b A cap ps hl w' h
        have cS := fun w' h => rshort_b A cap ps hl w' h
        have cA := fun w' h => rarea_b A cap ps hl w' h
        generalize shortP ps = S at *
        generalize areaP ps = AR at *
        cases hc : cvx ps
        focus
          rw [hc] at cV hV
          obtain rfl : V = 12 := by rw [hV]; simp
          clear hV hc
          go_wp2_with fail
          refine wp_region_gw (by kernel_rfl) (by kernel_rfl) ?_
          repeat (go_big_quiet_step ((first | (go_at_call 128; (first | (exact gw_call (boolIs (rcount_b _ _ _ _ _ _) (b := true) (by assumption))) | (exact gw_call (boolIs (rcount_b _ _ _ _ _ _) (b := false) (by assumption))) | (exact gw_call (rcount_b _ _ _ _ _ _)))) | (go_at_call 129; (first | (exact gw_call (boolIs (rwith_b _ _) (b := true) (by assumption))) | (exact gw_call (boolIs (rwith_b _ _) (b := false) (by assumption))) | (exact gw_call (rwith_b _ _)))) | (go_at_call 79; exact gw_call (rvsub_b _ _ _ _ _)) | (go_at_call 130; exact gw_call (rvlen_b _ _ _)))))
          refine wpQuiet_nil ?_
          intro w1 hw1
          obtain ⟨q, rfl⟩ := hw1
          go_wp2_with (go_at_call 131; refine Calls.mono (gw_at (cV _ (Pts.to hP bBel))) ?_; rintro e w1 ⟨rfl, q, rfl⟩)
          go_ret
          exact ⟨rfl, bBel⟩
        rw [hc] at cV hV
        by_cases s1 : S < 4096
        focus
          obtain rfl : V = 12 := by rw [hV]; simp [s1]
          clear hV hc
          go_wp2_with fail
          refine wp_region_gw (by kernel_rfl) (by kernel_rfl) ?_
          repeat (go_big_quiet_step ((first | (go_at_call 128; (first | (exact gw_call (boolIs (rcount_b _ _ _ _ _ _) (b := true) (by assumption))) | (exact gw_call (boolIs (rcount_b _ _ _ _ _ _) (b := false) (by assumption))) | (exact gw_call (rcount_b _ _ _ _ _ _)))) | (go_at_call 129; (first | (exact gw_call (boolIs (rwith_b _ _) (b := true) (by assumption))) | (exact gw_call (boolIs (rwith_b _ _) (b := false) (by assumption))) | (exact gw_call (rwith_b _ _)))) | (go_at_call 79; exact gw_call (rvsub_b _ _ _ _ _)) | (go_at_call 130; exact gw_call (rvlen_b _ _ _)))))
          refine wpQuiet_nil ?_
          intro w1 hw1
          obtain ⟨q, rfl⟩ := hw1
          go_wp2_with (first | (go_at_call 131; refine Calls.mono (gw_at (cV _ (Pts.to hP bBel))) ?_; rintro e w1 ⟨rfl, q, rfl⟩) | (go_at_call 132; refine Calls.mono (gw_at (cS _ (Pts.to hP bBel))) ?_; rintro e w1 ⟨rfl, q, rfl⟩))
          go_ret
          exact ⟨rfl, bBel⟩
        by_cases s2 : AR < 256
        focus
          obtain rfl : V = 12 := by rw [hV]; simp [s2]
          clear hV hc
          go_wp2_with fail
          refine wp_region_gw (by kernel_rfl) (by kernel_rfl) ?_
          repeat (go_big_quiet_step ((first | (go_at_call 128; (first | (exact gw_call (boolIs (rcount_b _ _ _ _ _ _) (b := true) (by assumption))) | (exact gw_call (boolIs (rcount_b _ _ _ _ _ _) (b := false) (by assumption))) | (exact gw_call (rcount_b _ _ _ _ _ _)))) | (go_at_call 129; (first | (exact gw_call (boolIs (rwith_b _ _) (b := true) (by assumption))) | (exact gw_call (boolIs (rwith_b _ _) (b := false) (by assumption))) | (exact gw_call (rwith_b _ _)))) | (go_at_call 79; exact gw_call (rvsub_b _ _ _ _ _)) | (go_at_call 130; exact gw_call (rvlen_b _ _ _)))))
          refine wpQuiet_nil ?_
          intro w1 hw1
          obtain ⟨q, rfl⟩ := hw1
          go_wp2_with (first | (go_at_call 131; refine Calls.mono (gw_at (cV _ (Pts.to hP bBel))) ?_; rintro e w1 ⟨rfl, q, rfl⟩) | (go_at_call 132; refine Calls.mono (gw_at (cS _ (Pts.to hP bBel))) ?_; rintro e w1 ⟨rfl, q, rfl⟩) | (go_at_call 133; refine Calls.mono (gw_at (cA _ (Pts.to hP bBel))) ?_; rintro e w1 ⟨rfl, q, rfl⟩))
          go_ret
          exact ⟨rfl, bBel⟩
        obtain rfl : V = 0 := by rw [hV, if_neg (by simp; omega)]
        clear hV hc
        go_wp2_with fail
        refine wp_region_gw (by kernel_rfl) (by kernel_rfl) ?_
        repeat (go_big_quiet_step ((first | (go_at_call 128; (first | (exact gw_call (boolIs (rcount_b _ _ _ _ _ _) (b := true) (by assumption))) | (exact gw_call (boolIs (rcount_b _ _ _ _ _ _) (b := false) (by assumption))) | (exact gw_call (rcount_b _ _ _ _ _ _)))) | (go_at_call 129; (first | (exact gw_call (boolIs (rwith_b _ _) (b := true) (by assumption))) | (exact gw_call (boolIs (rwith_b _ _) (b := false) (by assumption))) | (exact gw_call (rwith_b _ _)))) | (go_at_call 79; exact gw_call (rvsub_b _ _ _ _ _)) | (go_at_call 130; exact gw_call (rvlen_b _ _ _)))))
        refine wpQuiet_nil ?_
        intro w1 hw1
        obtain ⟨q, rfl⟩ := hw1
        go_wp2_with (first | (go_at_call 131; refine Calls.mono (gw_at (cV _ (Pts.to hP bBel))) ?_; rintro e w1 ⟨rfl, q, rfl⟩) | (go_at_call 132; refine Calls.mono (gw_at (cS _ (Pts.to hP bBel))) ?_; rintro e w1 ⟨rfl, q, rfl⟩) | (go_at_call 133; refine Calls.mono (gw_at (cA _ (Pts.to hP bBel))) ?_; rintro e w1 ⟨rfl, q, rfl⟩))
        go_ret
        exact ⟨rfl, bBel⟩

end Go.Proofs.YtdmcdicphohlfaaGreat

set_option linter.unusedVariables false
namespace Go.Proofs.YtdmcdicphohlfaaGreat
open Go.RowKit Fx

set_option maxHeartbeats 4000000 in
theorem reqv_b (A B : Option Addr) (ca cb : Nat) (ps qs : List (Int × Int)) (hl : ps.length ≤ 4611686018427387904) (hm : qs.length ≤ 4611686018427387904) (w : World) (ha : Pts w A ps) (hb : Pts w B qs) : Calls Tryz.prog 210 #[.slice A ps.length ca, .slice B qs.length cb] w fun e w' => e = .returned (.bool (decide (ps = qs))) ∧ Below w.heap.size w w' := by
  obtain ⟨R, hR⟩ : ∃ R, decide (ps = qs) = R := ⟨_, rfl⟩
  rw [hR]
  have hR1 : Hid (R = true ↔ ps = qs) := by show _ ↔ _; rw [← hR]; simp
  clear hR
  by_cases hlen : ps.length = qs.length
  case neg =>
    obtain rfl : R = false := by rw [Bool.eq_false_iff]; intro e; exact hlen (by rw [hR1.out.1 e])
    have b0 : ((ps.length : Int) != (qs.length : Int)) = true := by rw [bne_iff_ne]; omega
    clear hR1 hlen
    go_enter Tryz.func210, Tryz.ntmps210
    go_wp2_with fail
    go_ret
    exact ⟨rfl, bBel⟩
  have hlen2 : Hid (ps.length = qs.length) := hlen
  have b0 : ((ps.length : Int) != (qs.length : Int)) = false := by rw [bne_eq_false_iff_eq]; omega
  clear hlen
  go_enter Tryz.func210, Tryz.ntmps210
  go_wp2_with fail
  go_loopw [5] (fun i wr => ∃ k : Nat, k ≤ ps.length ∧ i = .int .i64 (k : Int) ∧ (∀ j (h1 : j < ps.length) (h2 : j < qs.length), j < k → ps[j] = qs[j]) ∧ ∃ p, wr = gw w p)
    (fun i _ => (ps.length - intOf i).toNat)
  case atStart => exact ⟨0, by omega, rfl, by omega, ⟨⟨w.drawn, #[]⟩, (gw_zero w).symm⟩⟩
  case round =>
    obtain ⟨k, hk, rfl, hall, p, rfl⟩ := hrel
    by_cases hlt : k < ps.length
    · have hlt2 : k < qs.length := by have := hlen2.out; omega
      have i0 : (0 : Int) ≤ (k : Int) := by omega
      have i1 : (k : Int) < (ps.length : Int) := by omega
      have i2 : (k : Int) < (qs.length : Int) := by omega
      obtain ⟨b, off, rfl, hc⟩ := pts_open ha (by omega)
      obtain ⟨b', off', rfl, hc'⟩ := pts_open hb (by omega)
      obtain ⟨d0, d1⟩ := hc p k hlt
      obtain ⟨f0, f1⟩ := hc' p k hlt2
      have ob := older_of_cell d0
      have ob' := older_of_cell f0
      have hno : ¬ ps[k] = qs[k] → R = false := fun h => by
        rw [Bool.eq_false_iff]; intro e; exact h (by have := hR1.out.1 e; subst this; rfl)
      have hsucc : ps[k] = qs[k] → ∀ j (h1 : j < ps.length) (h2 : j < qs.length), j < k + 1 → ps[j] = qs[j] := fun g j h1 h2 hj => by
        rcases (by omega : j < k ∨ j = k) with h3 | rfl
        · exact hall j h1 h2 h3
        · exact g
      have hiff : Hid (ps[k] = qs[k] ↔ (ps[k].1 = qs[k].1 ∧ ps[k].2 = qs[k].2)) := Prod.ext_iff
      clear hc hc' hall
      generalize ps[k].1 = x at *
      generalize ps[k].2 = y at *
      generalize qs[k].1 = x' at *
      generalize qs[k].2 = y' at *
      by_cases c1 : x = x'
      · by_cases c2 : y = y'
        · subst c1 c2
          have hg := hsucc (hiff.out.2 ⟨rfl, rfl⟩)
          clear hno hsucc hiff
          go_wp2_with fail
          refine wp_region_gw (by kernel_rfl) (by kernel_rfl) ?_
          repeat (go_big_quiet_step (fail))
          refine wpQuiet_nil ?_
          intro w1 hw1
          obtain ⟨q, rfl⟩ := hw1
          go_wp2_with fail
          exact ⟨⟨k + 1, by omega, by go_num, hg, gw_gw _ _ _⟩, by (try go_num); simp [intOf]; (try omega)⟩
        · obtain rfl := hno fun h => c2 (hiff.out.1 h).2
          have b1 : (y == y') = false := by rw [beq_eq_false_iff_ne]; exact c2
          clear hno hsucc hiff
          go_wp2_with fail
          refine wp_region_gw (by kernel_rfl) (by kernel_rfl) ?_
          repeat (go_big_quiet_step (fail))
          refine wpQuiet_nil ?_
          intro w1 hw1
          obtain ⟨q, rfl⟩ := hw1
          go_wp2_with fail
          go_ret
          exact ⟨rfl, bBel⟩
      · obtain rfl := hno fun h => c1 (hiff.out.1 h).1
        have b1 : (x == x') = false := by rw [beq_eq_false_iff_ne]; exact c1
        clear hno hsucc hiff
        go_wp2_with fail
        refine wp_region_gw (by kernel_rfl) (by kernel_rfl) ?_
        repeat (go_big_quiet_step (fail))
        refine wpQuiet_nil ?_
        intro w1 hw1
        obtain ⟨q, rfl⟩ := hw1
        go_wp2_with fail
        go_ret
        exact ⟨rfl, bBel⟩
    · obtain rfl : k = ps.length := by omega
      have i1 : ¬ (ps.length : Int) < (ps.length : Int) := by omega
      obtain rfl : R = true := hR1.out.2 (List.ext_getElem hlen2.out fun j h1 h2 => hall j h1 h2 h1)
      clear hall
      go_wp2_with fail
      go_ret
      exact ⟨rfl, bBel⟩

def eqS (K R : Int) (ps : List (Int × Int)) (K' R' : Int) (qs : List (Int × Int)) : Bool := decide (K = K') && decide (R = R') && decide (ps = qs)

theorem reqs_b (K R : Int) (A : Option Addr) (ca : Nat) (ps : List (Int × Int)) (K' R' : Int) (B : Option Addr) (cb : Nat) (qs : List (Int × Int)) (hl : ps.length ≤ 4611686018427387904) (hm : qs.length ≤ 4611686018427387904) (w : World) (ha : Pts w A ps) (hb : Pts w B qs) : Calls Tryz.prog 154 #[.agg #[.int .i64 K, .int .i64 R, .slice A ps.length ca], .agg #[.int .i64 K', .int .i64 R', .slice B qs.length cb]] w fun e w' => e = .returned (.bool (eqS K R ps K' R' qs)) ∧ Below w.heap.size w w' := by
  have cE := fun w' h1 h2 => reqv_b A B ca cb ps qs hl hm w' h1 h2
  unfold eqS
  generalize decide (ps = qs) = E at *
  by_cases h1 : K = K'
  · by_cases h2 : R = R'
    · have b1 : (K == K') = true := by rw [beq_iff_eq]; exact h1
      have b2 : (R == R') = true := by rw [beq_iff_eq]; exact h2
      rw [decide_eq_true h1, decide_eq_true h2]
      clear h1 h2
      go_enter Tryz.func154, Tryz.ntmps154
      go_wp2_with (go_at_call 210; refine Calls.mono (gw_at (cE _ (Pts.to ha bBel) (Pts.to hb bBel))) ?_; rintro e w1 ⟨rfl, q, rfl⟩)
      go_ret
      exact ⟨rfl, bBel⟩
    · have b1 : (K == K') = true := by rw [beq_iff_eq]; exact h1
      have b2 : (R == R') = false := by rw [beq_eq_false_iff_ne]; exact h2
      rw [decide_eq_true h1, decide_eq_false h2]
      clear h1 h2
      go_enter Tryz.func154, Tryz.ntmps154
      go_wp2_with fail
      go_ret
      exact ⟨rfl, bBel⟩
  · have b1 : (K == K') = false := by rw [beq_eq_false_iff_ne]; exact h1
    rw [decide_eq_false h1]
    clear h1
    go_enter Tryz.func154, Tryz.ntmps154
    go_wp2_with fail
    go_ret
    exact ⟨rfl, bBel⟩

theorem map_take {f : Int × Int → Int × Int} {ps : List (Int × Int)} {k : Nat} (h : k < ps.length) : (ps.map f).take (k + 1) = (ps.map f).take k ++ [f ps[k]] := by
  rw [List.take_add_one, List.getElem?_map, List.getElem?_eq_getElem h]; rfl
theorem blk_to {w w' : World} {b : Nat} {c : Array Value} {t : TypeId} (h : blk w b c t) (hb : Below w.heap.size w w') : blk w' b c t := (hb.block b (blk_lt h)).trans h

set_option maxHeartbeats 4000000 in
theorem rvert_b (K R : Int) (A : Option Addr) (cap : Nat) (ps : List (Int × Int)) (px py a : Int) (hl : ps.length ≤ 4611686018427387904) (w : World) (hp : Pts w A ps) : Calls Tryz.prog 136 #[.agg #[.int .i64 K, .int .i64 R, .slice A ps.length cap], .agg #[.int .i64 px, .int .i64 py, .int .i64 a]] w (HullR w (core K R ps px py a)) := by
  obtain ⟨i0, hi, hz0, hz1, hz2⟩ := info_parts info_vec
  have cV := fun w' h => rval_b K R A cap ps hl w' h
  by_cases hv : valS K R ps = 0
  rotate_left
  · rw [core_no _ _ _ hv]
    have b1 : (valS K R ps != 0) = true := by rw [bne_iff_ne]; exact hv
    generalize valS K R ps = V at *
    clear hv
    go_enter Tryz.func136, Tryz.ntmps136
    go_wp2_with (go_at_call 62; refine Calls.mono (gw_at (cV _ (Pts.to hp bBel))) ?_; rintro e w1 ⟨rfl, q, rfl⟩)
    go_ret
    exact ⟨⟨none, 0, rfl, Nat.le_refl _, by decide, .inl rfl⟩, bBel⟩
  have hlen := (val_len hv).2.1
  rw [core_ok _ _ _ hv]
  rw [hv] at cV
  obtain ⟨L, hL⟩ : ∃ L, ps.map (tr px py a) = L := ⟨_, rfl⟩
  rw [hL]
  have hLl : Hid (L.length = ps.length) := by show _ = _; rw [← hL, List.length_map]
  have hLs : Hid (∀ k (h : k < ps.length), L.take (k + 1) = L.take k ++ [(tpx px a ps[k].1 ps[k].2, tpy py a ps[k].1 ps[k].2)]) := fun k h => by rw [← hL]; exact map_take h
  clear hL hv
  go_enter Tryz.func136, Tryz.ntmps136
  go_wp2_with (go_at_call 62; refine Calls.mono (gw_at (cV _ (Pts.to hp bBel))) ?_; rintro e w1 ⟨rfl, q, rfl⟩)
  refine wp_named ?_
  intro W hW
  have kB : blk W w.heap.size #[.int .i64 K, .int .i64 R, .slice A ps.length cap] 33 := by rw [hW]; exact bBkn
  have kT : blk W (w.heap.size + 1) #[.int .i64 px, .int .i64 py, .int .i64 a] 26 := by rw [hW]; exact bBkn
  have hbW : Below w.heap.size w W := by rw [hW]; exact bBel
  clear hW cV
  have hP : Pts W A ps := Pts.to hp hbW
  have hszW := hbW.size
  go_loopw [5, 6] (fun o i wr => ∃ k : Nat, k ≤ ps.length ∧ i = .int .i64 (k : Int) ∧ wr.ownsRow W.heap.size 24 2 o k (pv (L.take k)) ∧ Below W.heap.size W wr)
    (fun _ i _ => (ps.length - intOf i).toNat)
  case atStart => exact ⟨0, by omega, rfl, World.ownsRow_nil _ _ _ 2, Below.refl _ _⟩
  case round =>
    obtain ⟨k, hk, rfl, hown, hbR⟩ := hrel
    have hszR := hbR.size
    have kB1 := blk_to kB hbR
    have kT1 := blk_to kT hbR
    have hbWR : Below w.heap.size w wr := Below.trans hbW (hbR.mono hszW)
    have okB1 := blk_older kB1
    have ckB1_0 : _ = some _ := blk_cell kB1 0
    have ckB1_1 : _ = some _ := blk_cell kB1 1
    have ckB1_2 : _ = some _ := blk_cell kB1 2
    have fkB1_0 := blk_free kB1 0
    have fkB1_1 := blk_free kB1 1
    have fkB1_2 := blk_free kB1 2
    have okT1 := blk_older kT1
    have ckT1_0 : _ = some _ := blk_cell kT1 0
    have ckT1_1 : _ = some _ := blk_cell kT1 1
    have ckT1_2 : _ = some _ := blk_cell kT1 2
    have fkT1_0 := blk_free kT1 0
    have fkT1_1 := blk_free kT1 1
    have fkT1_2 := blk_free kT1 2
    by_cases hlt : k < ps.length
    · have j0 : (0 : Int) ≤ (k : Int) := by omega
      have j1 : (k : Int) < (ps.length : Int) := by omega
      obtain ⟨b2, off2, hA2, hc2⟩ := pts_open0 (Pts.to hP hbR) (by omega)
      subst hA2
      obtain ⟨d0, d1⟩ := hc2 k hlt
      have ob := older_of_cell d0
      have hs : Hid _ := hLs.out k hlt
      clear hc2
      generalize ps[k].1 = x at *
      generalize ps[k].2 = y at *
      go_wp2_with fail
      refine wp_mix 9 [0, 0, 0, 4, 0, 28, 60, 126, 254, 511, 1023] [] [0, 1, 2, 3, 4, 5, 6, 7, 8] (by kernel_rfl) (by kernel_rfl) ?_
      repeat (first | (refine mix_skip (by rfl) (by rfl) (by rfl) (by rfl) ?_) | (refine mix_early (by rfl) (by rfl) (by rfl) ?_; go_big_quiet_step (fail); with_reducible refine wpQuiet_nil ?_) | (refine mix_late (by rfl) (by rfl) (by rfl) ?_; go_big_quiet_step (fail); with_reducible refine wpQuiet_nil ?_) | (refine mix_call (by rfl) (by rfl) (by rfl) ?_; intro pM Qs hQs; go_wp2_with (go_at_call 71; refine Calls.mono (gw_at (rtapp_b _ _ _ _ _ _)) ?_; rintro e w1 ⟨rfl, q, rfl⟩); refine hQs _ _ bBel ?_))
      refine mix_make #[.int .i64 (tpx px a x y), .int .i64 (tpy py a x y)] 24 (some 1) (by rfl) (by rfl) (by rfl) (by rfl) (fun w => by simp [go_sem, mval]) ?_
      intro b5 wb hbb kb hS
      obtain ⟨qb, rfl⟩ := gw_of_below hbb
      clear hbb hS
      simp only [mval]
      refine mix_end ?_
      intro pE
      simp only [List.drop_succ_cons, List.drop_zero]
      go_wp2_with (at_builtin; refine wpList_app2 rfl _ _ 31 rfl W.heap.size 24 i0 (.agg #[.int .i64 0, .int .i64 0]) 16 Tryz.underlying31 hi hz0 hz1 hz2 rfl _ _ _ rfl (owns_below hown bBel) _ (.int .i64 (tpx px a x y)) (.int .i64 (tpy py a x y)) 24 rfl (by apply blk_of; (repeat (first | with_reducible exact kb | with_reducible apply blk_drew | with_reducible apply blk_gw | with_reducible apply blk_alloc | with_reducible apply blk_set | ((with_reducible apply blk_other); focus omega))); (first | rfl | simp)) rfl rfl (by unfold maxLen; omega) (by omega) (by first | (simp; omega) | omega) ?_; intro v' w2 hown2 hb2 hg2 ho2)
      exact ⟨⟨k + 1, by omega, by go_num, by rw [hs.out, pv_append]; exact hown2, Below.trans hbR (Below.trans bBel hb2)⟩, by (try go_num); simp [intOf]; (try omega)⟩
    · obtain rfl : k = ps.length := by omega
      have j1 : ¬ (ps.length : Int) < (ps.length : Int) := by omega
      rw [List.take_of_length_le (by rw [hLl.out]; exact Nat.le_refl _)] at hown
      obtain ⟨A5, c5, rfl, e5, hle5, hmx5, hP5⟩ := owns_pts hown
      go_wp2_with fail
      go_ret
      exact ⟨⟨A5, c5, rfl, hle5, hmx5, hP5⟩, hbWR⟩

end Go.Proofs.YtdmcdicphohlfaaGreat

set_option linter.unusedVariables false
namespace Go.Proofs.YtdmcdicphohlfaaGreat
open Go.RowKit Fx

end Go.Proofs.YtdmcdicphohlfaaGreat

set_option linter.unusedVariables false
namespace Go.Proofs.YtdmcdicphohlfaaGreat
open Go.RowKit Fx

def bxk (L : List (Int × Int)) (k : Nat) : Bx := Bx.pts (L.take (max k 1))
theorem bxk_step {L : List (Int × Int)} (hs : ∀ p ∈ L, sat p.1 = p.1 ∧ sat p.2 = p.2) {k : Nat} (h : k < L.length) : bxk L (k + 1) = ⟨min (bxk L k).x0 L[k].1, min (bxk L k).y0 L[k].2, max (bxk L k).x1 L[k].1, max (bxk L k).y1 L[k].2⟩ := by
  obtain ⟨s1, s2⟩ := hs _ (List.getElem_mem h)
  rcases Nat.eq_zero_or_pos k with rfl | h0
  · show Bx.pts (L.take 1) = _
    unfold bxk
    rw [show max 0 1 = 1 from rfl, Bx.pts_one h]
    unfold Bx.one
    rw [s1, s2]
    simp
  · unfold bxk
    rw [show max (k + 1) 1 = k + 1 from by omega, show max k 1 = k from by omega, Bx.pts_succ (by omega) h]
    unfold Bx.step
    rw [s1, s2]
theorem bxk_zero {L : List (Int × Int)} (hs : ∀ p ∈ L, sat p.1 = p.1 ∧ sat p.2 = p.2) (h : 0 < L.length) : bxk L 0 = ⟨L[0].1, L[0].2, L[0].1, L[0].2⟩ := by
  obtain ⟨s1, s2⟩ := hs _ (List.getElem_mem h)
  unfold bxk
  rw [show max 0 1 = 1 from rfl, Bx.pts_one h]
  unfold Bx.one
  rw [s1, s2]
theorem bxk_end {L : List (Int × Int)} (h : 0 < L.length) : bxk L L.length = Bx.pts L := by
  unfold bxk; rw [show max L.length 1 = L.length from by omega, List.take_length]
theorem core_sat {ps : List (Int × Int)} {px py a : Int} : ∀ p ∈ ps.map (tr px py a), sat p.1 = p.1 ∧ sat p.2 = p.2 := fun p hp => by
  obtain ⟨q, _, rfl⟩ := List.mem_map.1 hp
  exact ⟨(add_sat' _ _).symm, (add_sat' _ _).symm⟩

set_option maxHeartbeats 4000000 in
theorem rbnd_b (K R : Int) (A : Option Addr) (cap : Nat) (ps : List (Int × Int)) (px py a : Int) (hl : ps.length ≤ 4611686018427387904) (w : World) (hp : Pts w A ps) : Calls Tryz.prog 66 #[.agg #[.int .i64 K, .int .i64 R, .slice A ps.length cap], .agg #[.int .i64 px, .int .i64 py, .int .i64 a]] w fun e w' => e = .returned (.agg #[.int .i64 (bndS K R ps px py a).x0, .int .i64 (bndS K R ps px py a).y0, .int .i64 (bndS K R ps px py a).x1, .int .i64 (bndS K R ps px py a).y1]) ∧ Below w.heap.size w w' := by
  have cV := fun w' h => rvert_b K R A cap ps px py a hl w' h
  by_cases hv : valS K R ps = 0
  rotate_left
  · have e : bndS K R ps px py a = Bx.zero := if_neg hv
    rw [e]
    rw [core_no _ _ _ hv] at cV
    clear hv e
    go_enter Tryz.func66, Tryz.ntmps66
    go_wp2_with (go_at_call 136; refine Calls.mono (cV _ (Pts.to hp bBel)) ?_; rintro e w1 ⟨⟨A1, cap1, rfl, h11, h12, h13⟩, hb1⟩; obtain ⟨q1, rfl⟩ := gw_of_below hb1; clear hb1)
    refine post_named ?_
    intro Z hZ
    have kZ : blk Z (w.heap.size + 1 + 1) #[.int .i64 0, .int .i64 0, .int .i64 0, .int .i64 0] 45 := by rw [hZ]; exact bBkn
    have hbZ : Below w.heap.size w Z := by rw [hZ]; exact bBel
    clear hZ
    have okZ := blk_older kZ
    have ckZ_0 : _ = some _ := blk_cell kZ 0
    have ckZ_1 : _ = some _ := blk_cell kZ 1
    have ckZ_2 : _ = some _ := blk_cell kZ 2
    have ckZ_3 : _ = some _ := blk_cell kZ 3
    have fkZ_0 := blk_free kZ 0
    have fkZ_1 := blk_free kZ 1
    have fkZ_2 := blk_free kZ 2
    have fkZ_3 := blk_free kZ 3
    exact bodyPost_ret (v := .agg #[.int .i64 0, .int .i64 0, .int .i64 0, .int .i64 0]) (by simp [results, Tryz.results66, go_sem, ckZ_0, ckZ_1, ckZ_2, ckZ_3]) rfl ⟨rfl, hbZ⟩
  have e : bndS K R ps px py a = (Bx.pts (ps.map (tr px py a))).mar R := if_pos hv
  have hlen := val_len hv
  rw [e]
  unfold Bx.mar
  dsimp only
  rw [core_ok _ _ _ hv] at cV
  have hs := core_sat (ps := ps) (px := px) (py := py) (a := a)
  have h0 : 0 < (ps.map (tr px py a)).length := by rw [List.length_map]; omega
  have h8 : (ps.map (tr px py a)).length ≤ 8 := by rw [List.length_map]; omega
  generalize ps.map (tr px py a) = L at *
  have hend : Hid (bxk L L.length = Bx.pts L) := bxk_end h0
  have hz : Hid (bxk L 0 = ⟨L[0].1, L[0].2, L[0].1, L[0].2⟩) := bxk_zero hs h0
  have hst : Hid (∀ k (h : k < L.length), bxk L (k + 1) = ⟨min (bxk L k).x0 L[k].1, min (bxk L k).y0 L[k].2, max (bxk L k).x1 L[k].1, max (bxk L k).y1 L[k].2⟩) := fun k h => bxk_step hs h
  have b0 : ((L.length : Int) == 0) = false := by rw [beq_eq_false_iff_ne]; omega
  clear hv e hlen hs
  go_enter Tryz.func66, Tryz.ntmps66
  go_upto_region 2 with (go_at_call 136; refine Calls.mono (cV _ (Pts.to hp bBel)) ?_; rintro e w1 ⟨⟨A1, cap1, rfl, h11, h12, h13⟩, hb1⟩; obtain ⟨q1, rfl⟩ := gw_of_below hb1; clear hb1)
  refine wp_named ?_
  intro V hV
  have kB : blk V w.heap.size #[.int .i64 K, .int .i64 R, .slice A ps.length cap] 33 := by rw [hV]; exact bBkn
  have kR : blk V (w.heap.size + 1 + 1) #[.int .i64 0, .int .i64 0, .int .i64 0, .int .i64 0] 45 := by rw [hV]; exact bBkn
  have hbV : Below w.heap.size w V := by rw [hV]; exact bBel
  have hP : Pts V A1 L := by rw [hV]; exact Pts.to h13 bBel
  clear hV cV h13
  have hszV := hbV.size
  obtain ⟨b1, off1, hA1, hc1⟩ := pts_open0 hP h0
  subst hA1
  obtain ⟨d0, d1⟩ := hc1 0 h0
  have hob := World.block_lt_of_cell? V ⟨b1, off1 + 0 * 2, none⟩ d0
  simp only [Nat.zero_mul, Nat.add_zero] at d0 d1
  have o1 := older_of_cell d0
  have j0 : (0 : Int) < (L.length : Int) := by omega
  go_wp2_with fail
  have hcV : ∀ k (h : k < L.length) w', Below V.heap.size V w' → w'.cell? ⟨b1, off1 + k * 2, none⟩ = some (.int .i64 L[k].1) ∧ w'.cell? ⟨b1, off1 + k * 2 + 1, none⟩ = some (.int .i64 L[k].2) := fun k h w' hb => by
    obtain ⟨e0, e1⟩ := hc1 k h
    have := World.block_lt_of_cell? V ⟨b1, off1 + k * 2, none⟩ e0
    exact ⟨(hb.cell (p := ⟨b1, off1 + k * 2, none⟩) this).trans e0, (hb.cell (p := ⟨b1, off1 + k * 2 + 1, none⟩) this).trans e1⟩
  clear hc1 d0 d1 o1 hob
  go_loopw [8] (fun i wr => ∃ k : Nat, k ≤ L.length ∧ i = .int .i64 (k : Int) ∧ blk wr V.heap.size #[.int .i64 (bxk L k).x0, .int .i64 (bxk L k).y0] 24 ∧ blk wr (V.heap.size + 1) #[.int .i64 (bxk L k).x1, .int .i64 (bxk L k).y1] 24 ∧ Below V.heap.size V wr)
    (fun i _ => (L.length - intOf i).toNat)
  case atStart =>
    refine ⟨0, by omega, rfl, ?_, ?_, bBel⟩
    · rw [hz.out]; exact bBkn
    · rw [hz.out]; exact bBkn
  case round =>
    obtain ⟨k, hk, rfl, kL, kH, hbR⟩ := hrel
    have hszR := hbR.size
    have okL := blk_older kL
    have ckL_0 : _ = some _ := blk_cell kL 0
    have ckL_1 : _ = some _ := blk_cell kL 1
    have fkL_0 := blk_free kL 0
    have fkL_1 := blk_free kL 1
    have okH := blk_older kH
    have ckH_0 : _ = some _ := blk_cell kH 0
    have ckH_1 : _ = some _ := blk_cell kH 1
    have fkH_0 := blk_free kH 0
    have fkH_1 := blk_free kH 1
    by_cases hlt : k < L.length
    · have i0 : (0 : Int) ≤ (k : Int) := by omega
      have i1 : (k : Int) < (L.length : Int) := by omega
      obtain ⟨d0, d1⟩ := hcV k hlt _ hbR
      have od := older_of_cell d0
      have hs : Hid (bxk L (k + 1) = ⟨min (bxk L k).x0 L[k].1, min (bxk L k).y0 L[k].2, max (bxk L k).x1 L[k].1, max (bxk L k).y1 L[k].2⟩) := hst.out k hlt
      have hc2 := hcV k hlt
      clear hcV hz hst
      generalize (bxk L k).x0 = x0 at *
      generalize (bxk L k).y0 = y0 at *
      generalize (bxk L k).x1 = x1 at *
      generalize (bxk L k).y1 = y1 at *
      generalize L[k].1 = x at *
      generalize L[k].2 = y at *
      go_wp2_with fail
      refine wp_region_gw_tail 17 (by kernel_rfl) (by kernel_rfl) ?_
      simp only [List.take_succ_cons, List.take_zero, List.drop_succ_cons, List.drop_zero]
      repeat (go_big_quiet_step ((first | (go_at_call 137; exact gw_call (rsub_b _ _ _)) | (go_at_call 89; exact gw_call (radd_b _ _ _)))))
      refine wpQuiet_nil ?_
      intro w1 hw1
      obtain ⟨q, rfl⟩ := hw1
      go_upto_region 10 with fail
      refine wp_named ?_
      intro X hX
      have kL1 : blk X V.heap.size #[.int .i64 (min x0 x), .int .i64 (min y0 y)] 24 := by rw [hX]; exact (by apply blk_of; (repeat (first | with_reducible exact kL | with_reducible apply blk_drew | with_reducible apply blk_gw | with_reducible apply blk_alloc | with_reducible apply blk_set | ((with_reducible apply blk_other); focus omega))); (first | rfl | simp))
      have kH1 : blk X (V.heap.size + 1) #[.int .i64 x1, .int .i64 y1] 24 := by rw [hX]; exact (by apply blk_of; (repeat (first | with_reducible exact kH | with_reducible apply blk_drew | with_reducible apply blk_gw | with_reducible apply blk_alloc | with_reducible apply blk_set | ((with_reducible apply blk_other); focus omega))); (first | rfl | simp))
      have hbX : Below V.heap.size V X := by rw [hX]; exact bBel
      clear hX kL kH ckL_0 ckL_1 fkL_0 fkL_1 okL ckH_0 ckH_1 fkH_0 fkH_1 okH d0 d1 od
      have hszX := hbX.size
      have okL1 := blk_older kL1
      have ckL1_0 : _ = some _ := blk_cell kL1 0
      have ckL1_1 : _ = some _ := blk_cell kL1 1
      have fkL1_0 := blk_free kL1 0
      have fkL1_1 := blk_free kL1 1
      have okH1 := blk_older kH1
      have ckH1_0 : _ = some _ := blk_cell kH1 0
      have ckH1_1 : _ = some _ := blk_cell kH1 1
      have fkH1_0 := blk_free kH1 0
      have fkH1_1 := blk_free kH1 1
      obtain ⟨d0, d1⟩ := hc2 _ hbX
      have od := older_of_cell d0
      refine wp_region_gw_tail 17 (by kernel_rfl) (by kernel_rfl) ?_
      simp only [List.take_succ_cons, List.take_zero, List.drop_succ_cons, List.drop_zero]
      repeat (go_big_quiet_step ((first | (go_at_call 137; exact gw_call (rsub_b _ _ _)) | (go_at_call 89; exact gw_call (radd_b _ _ _)))))
      refine wpQuiet_nil ?_
      intro w1 hw1
      obtain ⟨q, rfl⟩ := hw1
      go_wp2_with fail
      refine ⟨⟨k + 1, by omega, by go_num, ?_, ?_, bBel⟩, by (try go_num); simp [intOf]; (try omega)⟩
      · rw [hs.out]; exact (by apply blk_of; (repeat (first | with_reducible exact kL1 | with_reducible apply blk_drew | with_reducible apply blk_gw | with_reducible apply blk_alloc | with_reducible apply blk_set | ((with_reducible apply blk_other); focus omega))); (first | rfl | simp))
      · rw [hs.out]; exact (by apply blk_of; (repeat (first | with_reducible exact kH1 | with_reducible apply blk_drew | with_reducible apply blk_gw | with_reducible apply blk_alloc | with_reducible apply blk_set | ((with_reducible apply blk_other); focus omega))); (first | rfl | simp))
    · obtain rfl : k = L.length := by omega
      have i1 : ¬ (L.length : Int) < (L.length : Int) := by omega
      rw [hend.out] at *
      have kB1 := blk_to kB hbR
      have kR1 := blk_to kR hbR
      have hltB := blk_lt kR
      have okB1 := blk_older kB1
      have ckB1_0 : _ = some _ := blk_cell kB1 0
      have ckB1_1 : _ = some _ := blk_cell kB1 1
      have ckB1_2 : _ = some _ := blk_cell kB1 2
      have fkB1_0 := blk_free kB1 0
      have fkB1_1 := blk_free kB1 1
      have fkB1_2 := blk_free kB1 2
      have okR1 := blk_older kR1
      have ckR1_0 : _ = some _ := blk_cell kR1 0
      have ckR1_1 : _ = some _ := blk_cell kR1 1
      have ckR1_2 : _ = some _ := blk_cell kR1 2
      have ckR1_3 : _ = some _ := blk_cell kR1 3
      have fkR1_0 := blk_free kR1 0
      have fkR1_1 := blk_free kR1 1
      have fkR1_2 := blk_free kR1 2
      have fkR1_3 := blk_free kR1 3
      clear hcV hz hst
      have hbwR : Below w.heap.size w wr := Below.trans hbV (hbR.mono hszV)
      go_wp2_with fail
      refine wp_region_gw_tail 23 (by kernel_rfl) (by kernel_rfl) ?_
      simp only [List.take_succ_cons, List.take_zero, List.drop_succ_cons, List.drop_zero]
      repeat (go_big_quiet_step ((first | (go_at_call 137; exact gw_call (rsub_b _ _ _)) | (go_at_call 89; exact gw_call (radd_b _ _ _)))))
      refine wpQuiet_nil ?_
      intro w1 hw1
      obtain ⟨q, rfl⟩ := hw1
      go_wp2_with fail
      refine post_named ?_
      intro Z hZ
      have kZ : blk Z (w.heap.size + 1 + 1) #[.int .i64 (sub (Bx.pts L).x0 R), .int .i64 (sub (Bx.pts L).y0 R), .int .i64 (add (Bx.pts L).x1 R), .int .i64 (add (Bx.pts L).y1 R)] 45 := by rw [hZ]; exact (by apply blk_of; (repeat (first | with_reducible exact kR1 | with_reducible apply blk_drew | with_reducible apply blk_gw | with_reducible apply blk_alloc | with_reducible apply blk_set | ((with_reducible apply blk_other); focus omega))); (first | rfl | simp))
      have hbZ : Below w.heap.size w Z := by rw [hZ]; exact bBel
      clear hZ
      have okZ := blk_older kZ
      have ckZ_0 : _ = some _ := blk_cell kZ 0
      have ckZ_1 : _ = some _ := blk_cell kZ 1
      have ckZ_2 : _ = some _ := blk_cell kZ 2
      have ckZ_3 : _ = some _ := blk_cell kZ 3
      have fkZ_0 := blk_free kZ 0
      have fkZ_1 := blk_free kZ 1
      have fkZ_2 := blk_free kZ 2
      have fkZ_3 := blk_free kZ 3
      exact bodyPost_ret (v := .agg #[.int .i64 (sub (Bx.pts L).x0 R), .int .i64 (sub (Bx.pts L).y0 R), .int .i64 (add (Bx.pts L).x1 R), .int .i64 (add (Bx.pts L).y1 R)]) (by simp [results, Tryz.results66, go_sem, ckZ_0, ckZ_1, ckZ_2, ckZ_3]) rfl ⟨rfl, hbZ⟩

end Go.Proofs.YtdmcdicphohlfaaGreat

set_option linter.unusedVariables false
namespace Go.Proofs.YtdmcdicphohlfaaGreat
open Go.RowKit Fx

theorem or3_sgn (p q : Int × Int) (x y : Int) : or3 p q (x, y) < 0 ↔ or3 p q (x, y) = -1 := by
  have := or_ge p.1 p.2 q.1 q.2 x y
  unfold or3; dsimp only; omega

set_option maxHeartbeats 8000000 in
theorem rcon_b (K R : Int) (A : Option Addr) (cap : Nat) (ps : List (Int × Int)) (px py a x y : Int) (hl : ps.length ≤ 4611686018427387904) (w : World) (hp : Pts w A ps) : Calls Tryz.prog 82 #[.agg #[.int .i64 K, .int .i64 R, .slice A ps.length cap], .agg #[.int .i64 px, .int .i64 py, .int .i64 a], .agg #[.int .i64 x, .int .i64 y]] w fun e w' => e = .returned (.bool (conS K R ps px py a x y)) ∧ Below w.heap.size w w' := by
  have cV := fun w' h => rvert_b K R A cap ps px py a hl w' h
  by_cases hv : valS K R ps = 0
  rotate_left
  · have e : conS K R ps px py a x y = false := by unfold conS; rw [decide_eq_false hv]; rfl
    rw [e]
    rw [core_no _ _ _ hv] at cV
    clear hv e
    go_enter Tryz.func82, Tryz.ntmps82
    go_wp2_with (go_at_call 136; refine Calls.mono (cV _ (Pts.to hp bBel)) ?_; rintro e w1 ⟨⟨A1, cap1, rfl, h11, h12, h13⟩, hb1⟩; obtain ⟨q1, rfl⟩ := gw_of_below hb1; clear hb1)
    go_ret
    exact ⟨rfl, bBel⟩
  have e : conS K R ps px py a x y = conC K R (ps.map (tr px py a)) x y := by unfold conS; rw [decide_eq_true hv]; rfl
  have hlen := val_len hv
  have hK := (valS_zero.1 hv).1
  rw [e]
  rw [core_ok _ _ _ hv] at cV
  have h0 : 0 < (ps.map (tr px py a)).length := by rw [List.length_map]; omega
  have h8 : (ps.map (tr px py a)).length ≤ 8 := by rw [List.length_map]; omega
  have h2 : K = 2 → 1 < (ps.map (tr px py a)).length := fun h => by rw [List.length_map]; omega
  generalize ps.map (tr px py a) = L at *
  obtain ⟨C, hC⟩ : ∃ C, Hid (conC K R L x y = C) := ⟨conC K R L x y, rfl⟩
  rw [hC.out]
  have b0 : ((L.length : Int) == 0) = false := by rw [beq_eq_false_iff_ne]; omega
  clear hv e hlen
  go_enter Tryz.func82, Tryz.ntmps82
  go_upto_region 2 with (go_at_call 136; refine Calls.mono (cV _ (Pts.to hp bBel)) ?_; rintro e w1 ⟨⟨A1, cap1, rfl, h11, h12, h13⟩, hb1⟩; obtain ⟨q1, rfl⟩ := gw_of_below hb1; clear hb1)
  refine wp_named ?_
  intro W hW
  have kB : blk W w.heap.size #[.int .i64 K, .int .i64 R, .slice A ps.length cap] 33 := by rw [hW]; exact bBkn
  have kV : blk W (w.heap.size + 1 + 1) #[.int .i64 x, .int .i64 y] 24 := by rw [hW]; exact bBkn
  have hbW : Below w.heap.size w W := by rw [hW]; exact bBel
  have hP : Pts W A1 L := by rw [hW]; exact Pts.to h13 bBel
  clear hW cV h13
  have hszW := hbW.size
  have okB := blk_older kB
  have ckB_0 : _ = some _ := blk_cell kB 0
  have ckB_1 : _ = some _ := blk_cell kB 1
  have ckB_2 : _ = some _ := blk_cell kB 2
  have fkB_0 := blk_free kB 0
  have fkB_1 := blk_free kB 1
  have fkB_2 := blk_free kB 2
  have okV := blk_older kV
  have ckV_0 : _ = some _ := blk_cell kV 0
  have ckV_1 : _ = some _ := blk_cell kV 1
  have fkV_0 := blk_free kV 0
  have fkV_1 := blk_free kV 1
  obtain ⟨b1, off1, hA1, hc1⟩ := pts_open hP h0
  subst hA1
  obtain ⟨d0, d1⟩ := hc1 ⟨W.drawn, #[]⟩ 0 h0
  rw [gw_zero] at d0 d1
  simp only [Nat.zero_mul, Nat.add_zero] at d0 d1
  have o1 := older_of_cell d0
  have j0 : (0 : Int) < (L.length : Int) := by omega
  rcases (by omega : K = 1 ∨ K = 2 ∨ K = 3) with rfl | rfl | rfl
  · have hC' : C = decide (vlen (sub x L[0].1) (sub y L[0].2) ≤ R) := by rw [← hC.out]; unfold conC; rw [if_pos rfl, hp_get h0]
    clear hC hc1
    generalize L[0].1 = x0 at *
    generalize L[0].2 = y0 at *
    by_cases hd : vlen (sub x x0) (sub y y0) ≤ R
    · rw [decide_eq_true hd] at hC'
      have hd2 : decide (vlen (sub x x0) (sub y y0) ≤ R) = true := decide_eq_true hd
      subst hC'
      go_wp2_with fail
      refine wp_region_gw (by kernel_rfl) (by kernel_rfl) ?_
      repeat (go_big_quiet_step ((first | (go_at_call 79; exact gw_call (rvsub_b _ _ _ _ _)) | (go_at_call 130; exact gw_call (rvlen_b _ _ _)) | (go_at_call 152; exact gw_call (rsdist_b _ _ _ _ _ _ _ _ _)) | (go_at_call 153; exact gw_call (rorient_b _ _ _ _ _ _ _)))))
      refine wpQuiet_nil ?_
      intro w1 hw1
      obtain ⟨q, rfl⟩ := hw1
      go_wp2_with fail
      go_ret
      exact ⟨rfl, bBel⟩
    · rw [decide_eq_false hd] at hC'
      have hd2 : decide (vlen (sub x x0) (sub y y0) ≤ R) = false := decide_eq_false hd
      subst hC'
      go_wp2_with fail
      refine wp_region_gw (by kernel_rfl) (by kernel_rfl) ?_
      repeat (go_big_quiet_step ((first | (go_at_call 79; exact gw_call (rvsub_b _ _ _ _ _)) | (go_at_call 130; exact gw_call (rvlen_b _ _ _)) | (go_at_call 152; exact gw_call (rsdist_b _ _ _ _ _ _ _ _ _)) | (go_at_call 153; exact gw_call (rorient_b _ _ _ _ _ _ _)))))
      refine wpQuiet_nil ?_
      intro w1 hw1
      obtain ⟨q, rfl⟩ := hw1
      go_wp2_with fail
      go_ret
      exact ⟨rfl, bBel⟩
  · have h1 : 1 < L.length := h2 rfl
    have j1 : (1 : Int) < (L.length : Int) := by omega
    have hC' : C = decide (sdist x y x y L[0].1 L[0].2 L[1].1 L[1].2 ≤ R) := by rw [← hC.out]; unfold conC; rw [if_neg (by decide), if_pos rfl, hp_get h0, hp_get h1]
    obtain ⟨e0, e1⟩ := hc1 ⟨W.drawn, #[]⟩ 1 h1
    rw [gw_zero] at e0 e1
    simp only [Nat.one_mul] at e0 e1
    clear hC hc1
    generalize L[0].1 = x0 at *
    generalize L[0].2 = y0 at *
    generalize L[1].1 = x1 at *
    generalize L[1].2 = y1 at *
    have cD := fun w' => rsdist_b x y x y x0 y0 x1 y1 w'
    generalize sdist x y x y x0 y0 x1 y1 = D at *
    by_cases hd : D ≤ R
    · rw [decide_eq_true hd] at hC'
      have hd2 : decide (D ≤ R) = true := decide_eq_true hd
      subst hC'
      go_wp2_with fail
      refine wp_region_gw (by kernel_rfl) (by kernel_rfl) ?_
      repeat (go_big_quiet_step (first | (go_at_call 152; exact gw_call (cD _))))
      refine wpQuiet_nil ?_
      intro w1 hw1
      obtain ⟨q, rfl⟩ := hw1
      go_wp2_with fail
      go_ret
      exact ⟨rfl, bBel⟩
    · rw [decide_eq_false hd] at hC'
      have hd2 : decide (D ≤ R) = false := decide_eq_false hd
      subst hC'
      go_wp2_with fail
      refine wp_region_gw (by kernel_rfl) (by kernel_rfl) ?_
      repeat (go_big_quiet_step (first | (go_at_call 152; exact gw_call (cD _))))
      refine wpQuiet_nil ?_
      intro w1 hw1
      obtain ⟨q, rfl⟩ := hw1
      go_wp2_with fail
      go_ret
      exact ⟨rfl, bBel⟩
  · have hR1 : Hid (C = true ↔ ∀ i, i < L.length → or3 (hp' L i) (hp' L (i + 1)) (x, y) ≠ -1) := by
      show _ ↔ _; rw [← hC.out]; unfold conC polin; rw [if_neg (by decide), if_neg (by decide)]; simp
    clear hC d0 d1
    go_wp2_with fail
    go_loopw [8] (fun i wr => ∃ k : Nat, k ≤ L.length ∧ i = .int .i64 k ∧ (∀ j, j < k → or3 (hp' L j) (hp' L (j + 1)) (x, y) ≠ -1) ∧ ∃ p, wr = gw W p)
      (fun i _ => (L.length - intOf i).toNat)
    case atStart => exact ⟨0, by omega, rfl, by omega, ⟨⟨W.drawn, #[]⟩, (gw_zero W).symm⟩⟩
    case round =>
      obtain ⟨k, hk, rfl, hall, p, rfl⟩ := hrel
      by_cases hlt : k < L.length
      · have i0 : (0 : Int) ≤ (k : Int) := by omega
        have i1 : (k : Int) < (L.length : Int) := by omega
        have hmod := Nat.mod_lt (k + 1) (show 0 < L.length by omega)
        have hm : ((k : Int) + 1).tmod (L.length : Int) = (((k + 1) % L.length : Nat) : Int) := by
          rw [show (k : Int) + 1 = ((k + 1 : Nat) : Int) from by omega]; first | exact (Int.ofNat_tmod _ _).symm | exact (Int.natCast_tmod _ _).symm | (rw [Int.tmod_eq_emod_of_nonneg (by omega)]; exact (Int.natCast_emod _ _).symm)
        have hno : or3 (hp' L k) (hp' L (k + 1)) (x, y) = -1 → C = false := fun h => by
          rw [Bool.eq_false_iff]; intro e; exact hR1.out.1 e k hlt h
        have hsucc : or3 (hp' L k) (hp' L (k + 1)) (x, y) ≠ -1 → ∀ j, j < k + 1 → or3 (hp' L j) (hp' L (j + 1)) (x, y) ≠ -1 := fun g j hj => by
          rcases (by omega : j < k ∨ j = k) with h1 | rfl
          · exact hall j h1
          · exact g
        rw [← hp_mod L (k + 1)] at hno hsucc
        generalize (k + 1) % L.length = nx at *
        rw [hp_get hlt, hp_get hmod] at hno hsucc
        have x0 : (0 : Int) ≤ (nx : Int) := by omega
        have x1 : (nx : Int) < (L.length : Int) := by omega
        obtain ⟨d0, d1⟩ := hc1 p k hlt
        obtain ⟨f0, f1⟩ := hc1 p nx hmod
        have ob := older_of_cell d0
        have cO : ∀ w', Calls Tryz.prog 153 #[.agg #[.int .i64 L[k].1, .int .i64 L[k].2], .agg #[.int .i64 L[nx].1, .int .i64 L[nx].2], .agg #[.int .i64 x, .int .i64 y]] w' fun e w'' => e = .returned (.int .i64 (or3 L[k] L[nx] (x, y))) ∧ Below w'.heap.size w' w'' := fun w' => rorient_b _ _ _ _ _ _ _
        have hor := or3_sgn L[k] L[nx] x y
        clear hall hc1 hR1
        generalize or3 L[k] L[nx] (x, y) = O at *
        generalize L[k].1 = xk at *
        generalize L[k].2 = yk at *
        generalize L[nx].1 = xn at *
        generalize L[nx].2 = yn at *
        by_cases c : O < 0
        · obtain rfl := hno (hor.1 c)
          have b1 : decide (O < 0) = true := decide_eq_true c
          clear hno hsucc hor
          go_wp2_with fail
          refine wp_region_gw (by kernel_rfl) (by kernel_rfl) ?_
          repeat (go_big_quiet_step (first | (go_at_call 153; exact gw_call (cO _))))
          refine wpQuiet_nil ?_
          intro w1 hw1
          obtain ⟨q, rfl⟩ := hw1
          go_wp2_with fail
          go_ret
          exact ⟨rfl, bBel⟩
        · have hg := hsucc (fun h => c (hor.2 h))
          have b1 : decide (O < 0) = false := decide_eq_false c
          clear hno hsucc hor
          go_wp2_with fail
          refine wp_region_gw (by kernel_rfl) (by kernel_rfl) ?_
          repeat (go_big_quiet_step (first | (go_at_call 153; exact gw_call (cO _))))
          refine wpQuiet_nil ?_
          intro w1 hw1
          obtain ⟨q, rfl⟩ := hw1
          go_wp2_with fail
          exact ⟨⟨k + 1, by omega, by go_num, hg, gw_gw _ _ _⟩, by (try go_num); simp [intOf]; (try omega)⟩
      · obtain rfl : k = L.length := by omega
        have i1 : ¬ (L.length : Int) < (L.length : Int) := by omega
        obtain rfl : C = true := hR1.out.2 hall
        clear hall hc1
        go_wp2_with fail
        go_ret
        exact ⟨rfl, bBel⟩

end Go.Proofs.YtdmcdicphohlfaaGreat
