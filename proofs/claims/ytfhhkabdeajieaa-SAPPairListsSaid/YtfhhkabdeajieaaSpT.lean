/- Chapter 21: the walks of SAPMaxOverlapExact and SAPPairLists. -/
import Derived.Test.YtfhhkabdeajieaaSpX
import Derived.Test.YtfhhkabdeajieaaSpK
import Derived.Test.YtfhhkabdeajieaaSpG
set_option linter.unusedVariables false
set_option linter.unusedSimpArgs false
namespace Go.Proofs.Ytfhhkabdeajieaa
open Go.RowKit Fx

set_option maxRecDepth 100000 in
set_option maxHeartbeats 8000000 in
theorem walk_SAPMaxOverlapExact (A : Option Addr) (cap : Nat) (l : List En) (w : World) (ha : Enrs w A l) : Calls Try.prog 4 #[.slice A l.length cap] w fun e w' => e = .returned (.bool true) ∧ Below w.heap.size w w' := by
  by_cases h30 : l.length ≤ 30
  rotate_left
  · have h30' : (l.length : Int) > 30 := by omega
    go_enter Try.func4, Try.ntmps4
    go_wp2_with (go_at_call 8; refine Calls.mono (gw_at (example21_b _)) ?_; rintro e w1 ⟨rfl, q, rfl⟩)
    go_ret
    exact ⟨rfl, bBel⟩
  have h30' : ¬ (l.length : Int) > 30 := by omega
  have hk : Hid (∀ e ∈ l, i64k e.1) := ha.keys
  have hents := ha.ents
  clear ha
  have hsw : rmx (fAt (srE (cnt l))) (xAt (srE (cnt l))) (srE (cnt l)).length = rmx (gAt (srE (cnt l))) (xAt (srE (cnt l))) (srE (cnt l)).length :=
    sweep_eq (srE_srt (cnt_dst l)) fun e he => (Bx.val_iff.1 (cnt_vals _ ((srE_perm (cnt_dst l)).mem_iff.1 he))).1
  obtain ⟨⟨N, x⟩, hN⟩ : ∃ r, rmx (gAt (srE (cnt l))) (xAt (srE (cnt l))) (srE (cnt l)).length = r := ⟨_, rfl⟩
  have h1 : Hid (rmx (fAt (srE (cnt l))) (xAt (srE (cnt l))) (srE (cnt l)).length = (N, x)) := hsw.trans hN
  have h2 : Hid (rmx (gAt (srE (cnt l))) (xAt (srE (cnt l))) (srE (cnt l)).length = (N, x)) := hN
  clear hsw hN
  go_enter Try.func4, Try.ntmps4
  go_wp2_with (first
    | (go_at_call 12; refine Calls.mono (maxo_b A cap l (by omega) hk.out N x h1.out _ (hents.to bBel)) ?_; rintro e W1 ⟨rfl, hb1⟩; have hz1 := hb1.size)
    | (go_at_call 11; refine Calls.mono (tref_b _ l (by omega) _ (vw5_ents u_se sz_se (hents.to bBel))) ?_; rintro e W2 ⟨⟨rv, rfl, hrv⟩, hb2⟩; have hbw2 := Below.trans hb1 (hb2.mono hz1); have hz2 := hbw2.size; have hvr := vw5_own u_re sz_re hrv)
    | (go_at_call 13; refine Calls.mono (gw_at (rmaxo_b _ l (by omega) N x h2.out _ hvr)) ?_; rintro e w3 ⟨rfl, q3, rfl⟩)
    | (go_at_call 8; refine Calls.mono (gw_at (example21_b _)) ?_; rintro e w4 ⟨rfl, q4, rfl⟩))
  go_ret
  exact ⟨rfl, bBel⟩

set_option maxRecDepth 100000 in
set_option maxHeartbeats 8000000 in
theorem walk_SAPPairLists (A1 : Option Addr) (c1 : Nat) (a : List Pr) (A2 : Option Addr) (c2 : Nat) (b : List Pr) (w : World) (ha : Prrs w A1 a) (hb : Prrs w A2 b) (hA1 : A1 = none → c1 = 0) (hA2 : A2 = none → c2 = 0) : Calls Try.prog 5 #[.slice A1 a.length c1, .slice A2 b.length c2] w fun e w' => e = .returned (.bool true) ∧ Below w.heap.size w w' := by
  by_cases h40 : a.length ≤ 40 ∧ b.length ≤ 40
  rotate_left
  · have h9 : (a.length : Int) > 40 ∨ (¬ (a.length : Int) > 40 ∧ (b.length : Int) > 40) := by omega
    clear h40
    rcases h9 with h9 | ⟨h9, h8⟩
    all_goals
      go_enter Try.func5, Try.ntmps5
      go_wp2_with (go_at_call 8; refine Calls.mono (gw_at (example21_b _)) ?_; rintro e w1 ⟨rfl, q, rfl⟩)
      go_ret
      exact ⟨rfl, bBel⟩
  obtain ⟨ha40, hb40⟩ := h40
  have h9 : ¬ (a.length : Int) > 40 := by omega
  have h8 : ¬ (b.length : Int) > 40 := by omega
  have ka : Hid (∀ p ∈ a, okP p) := ha.keys
  have kb : Hid (∀ p ∈ b, okP p) := hb.keys
  have pa := ha.pts
  have pb := hb.pts
  have va : Vw2 w (.slice A1 a.length c1) a := vw_pts pa
  have vb : Vw2 w (.slice A2 b.length c2) b := vw_pts pb
  clear ha hb
  obtain ⟨R, hR⟩ : ∃ R, Hid (mrg (a ++ b) = R) := ⟨_, rfl⟩
  obtain ⟨R2, hR2⟩ : ∃ R2, Hid (mrg (sbt a b) = R2) := ⟨_, rfl⟩
  have hRR : Hid (mrg (R2 ++ b) = R) := by show _ = _; rw [← hR2.out, ← hR.out, mrg_sbt]
  have hR2l : R2.length ≤ 40 := by rw [← hR2.out]; exact Nat.le_trans (mrg_len _) (Nat.le_trans (sbt_len a b) ha40)
  have hRl : R.length ≤ 80 := by rw [← hR.out]; refine Nat.le_trans (mrg_len _) ?_; rw [List.length_append]; omega
  have hbw : Below w.heap.size w w := Below.refl _ _
  have hz := hbw.size
  go_enter Try.func5, Try.ntmps5
  go_wp2_with (first
    | (go_at_call 15; with_reducible_and_instances refine Calls.mono (mrgP_b A1 A2 c1 c2 a b (by omega) (by omega) hA1 hA2 _ (Pts.to pa hbw) (Pts.to pb hbw)) ?_; rw [hR.out]; rintro e WM ⟨⟨Am, cm, rfl, -, hnm, hpm⟩, hbM⟩; have hm : Vw2 WM (.slice Am R.length cm) R := vw_pts hpm; have hbw := Below.trans hbw (hbM.mono hz); have hz := hbw.size)
    | (go_at_call 16; with_reducible_and_instances refine Calls.mono (rmrg_b _ _ a b (by omega) (by omega) _ (va.to hbw) (vb.to hbw)) ?_; rw [hR.out]; rintro e WR ⟨⟨rv, rfl, hrv⟩, hbR⟩; have hr := vw_own hrv; have hm := hm.to hbR; have hbw := Below.trans hbw (hbR.mono hz); have hz := hbw.size)
    | (go_at_call 17; with_reducible_and_instances refine Calls.mono (sbtP_b A1 A2 c1 c2 a b (by omega) (by omega) ka.out kb.out _ (Pts.to pa hbw) (Pts.to pb hbw)) ?_; rw [hR2.out]; rintro e WS ⟨⟨As, cs, rfl, -, hns, hps⟩, hbS⟩; have hs : Vw2 WS (.slice As R2.length cs) R2 := vw_pts hps; have hbw := Below.trans hbw (hbS.mono hz); have hz := hbw.size)
    | (go_at_call 18; with_reducible_and_instances refine Calls.mono (rsbt_b _ _ a b (by omega) (by omega) _ (va.to hbw) (vb.to hbw)) ?_; rw [hR2.out]; rintro e WT ⟨⟨tv, rfl, htv⟩, hbT⟩; have ht := vw_own htv; have hs := hs.to hbT; have hbw := Below.trans hbw (hbT.mono hz); have hz := hbw.size)
    | (go_at_call 15; with_reducible_and_instances refine Calls.mono (mrgP_b As A2 cs c2 R2 b (by omega) (by omega) hns hA2 _ hps (Pts.to pb hbw)) ?_; rw [hRR.out]; rintro e WN ⟨⟨An, cn, rfl, -, -, hpn⟩, hbN⟩; have hn : Vw2 WN (.slice An R.length cn) R := vw_pts hpn; have hbw := Below.trans hbw (hbN.mono hz); have hz := hbw.size)
    | (go_at_call 14; with_reducible_and_instances refine Calls.mono (eqp21_b _ _ R R _ hm hr true (by simp) (by omega)) ?_; rintro e WE ⟨rfl, hbE⟩; have hbw := Below.trans hbw (hbE.mono hz); have hz := hbw.size)
    | (go_at_call 14; with_reducible_and_instances refine Calls.mono (eqp21_b _ _ R2 R2 _ hs ht true (by simp) (by omega)) ?_; rintro e WE ⟨rfl, hbE⟩; have hbw := Below.trans hbw (hbE.mono hz); have hz := hbw.size)
    | (go_at_call 14; with_reducible_and_instances refine Calls.mono (eqp21_b _ _ R R _ (hn.to hbM) hm true (by simp) (by omega)) ?_; rintro e WE ⟨rfl, hbE⟩; have hbw := Below.trans hbw (hbE.mono hz); have hz := hbw.size)
    | (go_at_call 8; refine Calls.mono (gw_at (example21_b _)) ?_; rintro e w4 ⟨rfl, q4, rfl⟩))
  go_ret
  exact ⟨rfl, bBel⟩

end Go.Proofs.Ytfhhkabdeajieaa
