/- Chapter 21, TopPairs: its example. -/
import Derived.Test.YtfhhkabdeajieaaSpX
import Derived.Test.YtfhhkabdeajieaaSpV
import Derived.Deep.RegionHeld3
set_option linter.unusedVariables false
set_option linter.unusedSimpArgs false
namespace Go.Proofs.Ytfhhkabdeajieaa
open Go.RowKit Fx

def exT : List En := [(5, ⟨0, 0, 2, 2⟩), (3, ⟨2, 2, 3, 3⟩)]
theorem exT_keys : ∀ e ∈ exT, i64k e.1 := by
  intro e he
  simp only [exT, List.mem_cons, List.not_mem_nil, or_false] at he
  rcases he with rfl | rfl <;> unfold i64k <;> dsimp only <;> omega
theorem exT_pairs : prP (cnt exT) = [(3, 5)] := by decide
theorem k5_21 : i64k 5 := by unfold i64k; omega
theorem k3_21 : i64k 3 := by unfold i64k; omega

set_option maxRecDepth 100000 in
set_option maxHeartbeats 16000000 in
theorem pex_b (w : World) : Calls Try.prog 22 #[] w fun e w' => e = .returned (.bool true) ∧ Below w.heap.size w w' := by
  have cS : ∀ g w', blk w' g #[.int .i64 5, .int .i64 0, .int .i64 0, .int .i64 2, .int .i64 2, .int .i64 3, .int .i64 2, .int .i64 2, .int .i64 3, .int .i64 3] 33 → Calls Try.prog 19 #[.slice (some ⟨g, 0, none⟩) 2 2] w' fun e w'' => (∃ v, e = .returned v ∧ w''.ownsRow w'.heap.size 44 2 v 1 (pv [(3, 5)])) ∧ Below w'.heap.size w' w'' := fun g w' h => by
    have := pairs21_b (some ⟨g, 0, none⟩) 2 exT (by decide) exT_keys w' (ents_blk (t := 33) h)
    rw [exT_pairs] at this; exact this
  have cT : ∀ a S w', TreeAt w' a [(3, ⟨2, 2, 3, 3⟩), (5, ⟨0, 0, 2, 2⟩)] S → Calls Try.prog 25 #[.pointer (some ⟨a, 0, none⟩)] w' fun e w'' => (∃ v, e = .returned v ∧ w''.ownsRow w'.heap.size 44 2 v 1 (pv [(3, 5)])) ∧ Below w'.heap.size w' w'' := fun a S w' h => by
    have := pairs_b a _ S w' h
    rw [show prL [(3, ⟨2, 2, 3, 3⟩), (5, ⟨0, 0, 2, 2⟩)] = [(3, 5)] by decide] at this; exact this
  have cI1 := fun a => ins_c a [] [(5, ⟨0, 0, 2, 2⟩)] 5 0 0 2 2 0 k5_21 (by decide) (by decide)
  have cI2 := fun a => ins_c a [(5, ⟨0, 0, 2, 2⟩)] [(3, ⟨2, 2, 3, 3⟩), (5, ⟨0, 0, 2, 2⟩)] 3 2 2 3 3 0 k3_21 (by decide) (by decide)
  have hq : ∀ W, (binOp .eql 44 (.agg #[.int .i64 3, .int .i64 5]) (.agg #[.int .i64 3, .int .i64 5])).run Try.prog W = .ok (.bool true) W := fun W => by rw [eql_pair]; simp
  go_enter Try.func22, Try.ntmps22
  go_upto_region 3 with fail
  refine wp_named ?_
  intro X hX
  have kA : blk X w.heap.size #[.int .i64 0, .int .i64 0, .int .i64 2, .int .i64 2] 31 := by rw [hX]; exact bBkn
  have kB : blk X (w.heap.size + 1) #[.int .i64 2, .int .i64 2, .int .i64 3, .int .i64 3] 31 := by rw [hX]; exact bBkn
  have hbX : Below w.heap.size w X := by rw [hX]; exact bBel
  clear hX
  have hszX := hbX.size
  go_upto_region 4 with (go_at_call 21; with_reducible_and_instances refine Calls.mono (new_b _) ?_; rintro e W0 ⟨rfl, kt0, hb0⟩; have hT0 := new_tree kt0; clear kt0)
  have hS0 : Hid (∀ k, k = X.heap.size → X.heap.size ≤ k) := fun k h => by omega
  have hA0 := blk_below hb0 kA
  have ohA0 := blk_older hA0
  have chA0_0 : _ = some _ := blk_cell hA0 0
  have chA0_1 : _ = some _ := blk_cell hA0 1
  have chA0_2 : _ = some _ := blk_cell hA0 2
  have chA0_3 : _ = some _ := blk_cell hA0 3
  have fhA0_0 := blk_free hA0 0
  have fhA0_1 := blk_free hA0 1
  have fhA0_2 := blk_free hA0 2
  have fhA0_3 := blk_free hA0 3
  go_wp2_with (go_at_call 41; fail "x")
  refine turn_useB (cI1 _) (hT0.below bBel) (V := X) bBel hS0 ?_
  intro W1 S1 hT1 hS1 hb1
  clear ohA0 chA0_0 chA0_1 chA0_2 chA0_3 fhA0_0 fhA0_1 fhA0_2 fhA0_3 hA0
  have hB1 := blk_below hb1 kB
  have ohB1 := blk_older hB1
  have chB1_0 : _ = some _ := blk_cell hB1 0
  have chB1_1 : _ = some _ := blk_cell hB1 1
  have chB1_2 : _ = some _ := blk_cell hB1 2
  have chB1_3 : _ = some _ := blk_cell hB1 3
  have fhB1_0 := blk_free hB1 0
  have fhB1_1 := blk_free hB1 1
  have fhB1_2 := blk_free hB1 2
  have fhB1_3 := blk_free hB1 3
  go_wp2_with (go_at_call 41; fail "x")
  refine turn_useB (cI2 _) (hT1.below bBel) (V := X) bBel hS1 ?_
  intro W2 S2 hT2 hS2 hb2
  clear ohB1 chB1_0 chB1_1 chB1_2 chB1_3 fhB1_0 fhB1_1 fhB1_2 fhB1_3 hB1 hb1 hT1 hS1 hT0 hS0 hb0
  have hcellW : ∀ w', Below W2.heap.size W2 w' → Below W2.heap.size W2 w' ∧ (w'.cell? ⟨w.heap.size, 0, none⟩ = some (.int .i64 0) ∧ w'.cell? ⟨w.heap.size, 1, none⟩ = some (.int .i64 0) ∧ w'.cell? ⟨w.heap.size, 2, none⟩ = some (.int .i64 2) ∧ w'.cell? ⟨w.heap.size, 3, none⟩ = some (.int .i64 2)) ∧ (w'.cell? ⟨w.heap.size + 1, 0, none⟩ = some (.int .i64 2) ∧ w'.cell? ⟨w.heap.size + 1, 1, none⟩ = some (.int .i64 2) ∧ w'.cell? ⟨w.heap.size + 1, 2, none⟩ = some (.int .i64 3) ∧ w'.cell? ⟨w.heap.size + 1, 3, none⟩ = some (.int .i64 3)) := fun w' h => by
    have h1 := blk_below h (blk_below hb2 kA)
    have h2 := blk_below h (blk_below hb2 kB)
    exact ⟨h, ⟨blk_cell h1 0, blk_cell h1 1, blk_cell h1 2, blk_cell h1 3⟩, blk_cell h2 0, blk_cell h2 1, blk_cell h2 2, blk_cell h2 3⟩
  obtain ⟨-, ⟨c0, c1, c2, c3⟩, d0, d1, d2, d3⟩ := hcellW W2 (Below.refl _ _)
  have oA : older w.heap.size W2 = true := older_of_cell c0
  have oB : older (w.heap.size + 1) W2 = true := older_of_cell d0
  have hbw2 := Below.trans hbX (hb2.mono hszX)
  have hszw2 := hbw2.size
  go_wp2_with fail
  go_region_held3 (fun w' => Below W2.heap.size W2 w' ∧ (w'.cell? ⟨w.heap.size, 0, none⟩ = some (.int .i64 0) ∧ w'.cell? ⟨w.heap.size, 1, none⟩ = some (.int .i64 0) ∧ w'.cell? ⟨w.heap.size, 2, none⟩ = some (.int .i64 2) ∧ w'.cell? ⟨w.heap.size, 3, none⟩ = some (.int .i64 2)) ∧ (w'.cell? ⟨w.heap.size + 1, 0, none⟩ = some (.int .i64 2) ∧ w'.cell? ⟨w.heap.size + 1, 1, none⟩ = some (.int .i64 2) ∧ w'.cell? ⟨w.heap.size + 1, 2, none⟩ = some (.int .i64 3) ∧ w'.cell? ⟨w.heap.size + 1, 3, none⟩ = some (.int .i64 3))) (first | (refine hcellW _ ?_; exact bBel)) (first
    | (go_at_call 25; refine Calls.mono (gw_ex (cT _ _ _ (hT2.below bBel))) ?_; rintro e w1 ⟨⟨vP, rfl, hoP⟩, qP, rfl⟩)
    | (go_at_call 19; refine Calls.mono (gw_ex (cS _ _ bBkn)) ?_; rintro e w1 ⟨⟨vS, rfl, hoS⟩, qS, rfl⟩))
  all_goals
    go_upto_region 7 with fail
    refine wp_named ?_
    intro Y hY
    have r1 : Hid (Y.ownsRow 0 44 2 vP 1 (pv [(3, 5)])) := by show World.ownsRow _ _ _ _ _ _ _; rw [hY]; exact owns_base (owns_below hoP bBel) (Nat.zero_le _)
    have r2 : Hid (Y.ownsRow 0 44 2 vS 1 (pv [(3, 5)])) := by show World.ownsRow _ _ _ _ _ _ _; rw [hY]; exact owns_base (owns_below hoS bBel) (Nat.zero_le _)
    have hbY : Below W2.heap.size W2 Y := by rw [hY]; exact bBel
    have hzY := hbY.size
    clear hY hoP hoS oA oB c0 c1 c2 c3 d0 d1 d2 d3 hcellW
    obtain ⟨g1, p1, rfl, og1, e0, e1⟩ := own_one21 r1.out
    obtain ⟨g2, p2, rfl, og2, f0, f1⟩ := own_one21 r2.out
    clear r1 r2
    go_wp2_with fail
    refine wp_region_gw (by kernel_rfl) (by kernel_rfl) ?_
    repeat (go_big_quiet_step (fail))
    refine wpQuiet_nil ?_
    intro w1 hw1
    obtain ⟨q, rfl⟩ := hw1
    go_wp2_with fail
    go_ret
    exact ⟨rfl, Below.trans hbw2 (Below.mono (show Below W2.heap.size W2 _ from bBel) hszw2)⟩

end Go.Proofs.Ytfhhkabdeajieaa
