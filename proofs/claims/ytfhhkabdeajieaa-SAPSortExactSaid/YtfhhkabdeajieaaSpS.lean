/- Chapter 21: the walk of SAPSortExact. -/
import Derived.Test.YtfhhkabdeajieaaSpX
import Derived.Test.YtfhhkabdeajieaaSpJ
set_option linter.unusedVariables false
set_option linter.unusedSimpArgs false
namespace Go.Proofs.Ytfhhkabdeajieaa
open Go.RowKit Fx

theorem neq_same21 (a b c d : Int) (W : World) : (binOp .neq 31 (.agg #[.int .i64 a, .int .i64 b, .int .i64 c, .int .i64 d]) (.agg #[.int .i64 a, .int .i64 b, .int .i64 c, .int .i64 d])).run Try.prog W = .ok (.bool false) W := by simp [go_sem]

set_option maxRecDepth 100000 in
set_option maxHeartbeats 8000000 in
theorem walk_SAPSortExact (A : Option Addr) (cap : Nat) (l : List En) (w : World) (ha : Enrs w A l) : Calls Try.prog 3 #[.slice A l.length cap] w fun e w' => e = .returned (.bool true) ∧ Below w.heap.size w w' := by
  by_cases h30 : l.length ≤ 30
  rotate_left
  · have h30' : (l.length : Int) > 30 := by omega
    go_enter Try.func3, Try.ntmps3
    go_wp2_with (go_at_call 8; refine Calls.mono (gw_at (example21_b _)) ?_; rintro e w1 ⟨rfl, q, rfl⟩)
    go_ret
    exact ⟨rfl, bBel⟩
  have h30' : ¬ (l.length : Int) > 30 := by omega
  have hk : Hid (∀ e ∈ l, i64k e.1) := ha.keys
  have hents := ha.ents
  clear ha
  obtain ⟨S, hS⟩ : ∃ S, Hid (srE (cnt l) = S) := ⟨_, rfl⟩
  have hSl : S.length ≤ 1000 := by have h1 := hS.out; have h2 := srE_len (cnt_dst l); have h3 := cnt_len l; rw [← h1, h2]; omega
  go_enter Try.func3, Try.ntmps3
  go_wp2_with (first
    | (go_at_call 9; refine Calls.mono (sort21_b A cap l (by omega) hk.out _ (hents.to bBel)) ?_; rintro e W1 ⟨⟨sv, rfl, hsv⟩, hb1⟩; rw [hS.out] at hsv; have hz1 := hb1.size; have hv1 := vw5_own u_se sz_se hsv; have l1 := hv1.len)
    | (go_at_call 11; refine Calls.mono (tref_b _ l (by omega) _ (vw5_ents u_se sz_se (hents.to bBel))) ?_; rintro e W2 ⟨⟨rv, rfl, hrv⟩, hb2⟩; have hbw2 := Below.trans hb1 (hb2.mono hz1); have hz2 := hbw2.size; have hvr := vw5_own u_re sz_re hrv)
    | (go_at_call 10; refine Calls.mono (rsort_b _ l (by omega) _ hvr) ?_; rintro e W3 ⟨⟨bv, rfl, hbv⟩, hb3⟩; rw [hS.out] at hbv; have hbw3 := Below.trans hbw2 (hb3.mono hz2); have hz3 := hbw3.size; have hv2 := vw5_own u_re sz_re hbv; have l2 := hv2.len))
  have hv13 : Vw5 22 W3 sv S := hv1.to (Below.trans hb2 (hb3.mono hb2.size))
  clear hv1 hvr hrv hsv hbv hents hk hb1 hb2 hb3 hbw2 hz1 hz2
  go_loopw [5] (fun i wr => ∃ k : Nat, k ≤ S.length ∧ i = .int .i64 (k : Int) ∧ Below W3.heap.size W3 wr) (fun i _ => S.length - (intOf i).toNat)
  case atStart => exact ⟨0, by omega, rfl, Below.refl _ _⟩
  case round =>
    obtain ⟨k, hk, rfl, hb⟩ := hrel
    have hszR := hb.size
    have hbw := Below.trans hbw3 (hb.mono hz3)
    have hszw := hbw.size
    by_cases hlt : k < S.length
    · obtain ⟨g, o, hix, hc⟩ := hv13.ix k hlt
      obtain ⟨og, d0, d1, d2, d3, d4⟩ := hc wr hb
      obtain ⟨g2, o2, hix2, hc2⟩ := hv2.ix k hlt
      obtain ⟨og2, f0, f1, f2, f3, f4⟩ := hc2 wr hb
      clear hc hc2
      generalize S[k] = e at *
      obtain ⟨i, x0, x1, x2, x3⟩ := e
      dsimp only at d0 d1 d2 d3 d4 f0 f1 f2 f3 f4
      have hne := fun W => neq_same21 x0 x1 x2 x3 W
      go_wp2_with fail
      refine wp_region_gw (by kernel_rfl) (by kernel_rfl) ?_
      repeat (go_big_quiet_step (fail))
      refine wpQuiet_nil ?_
      intro w1 hw1
      obtain ⟨q, rfl⟩ := hw1
      go_wp2_with fail
      exact ⟨⟨k + 1, by omega, by go_num, bBel⟩, by (try go_num); simp [intOf]; (try omega)⟩
    · obtain rfl : k = S.length := by omega
      go_wp2_with (go_at_call 8; refine Calls.mono (gw_at (example21_b _)) ?_; rintro e w1 ⟨rfl, q, rfl⟩)
      go_ret
      exact ⟨rfl, bBel⟩

end Go.Proofs.Ytfhhkabdeajieaa
