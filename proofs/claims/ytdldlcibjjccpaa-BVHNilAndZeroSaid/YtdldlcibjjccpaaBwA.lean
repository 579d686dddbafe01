import Derived.Test.YtdldlcibjjccpaaBwC
import Derived.Deep.DeepCutAuto
import Derived.Deep.RegionHeld3
set_option linter.unusedVariables false
set_option linter.unusedSimpArgs false
namespace Go.Proofs.Ytdldlcibjjccpaa
open Go.RowKit Fx

theorem bel_but {w V w' : World} {bb : Nat} (h1 : Below w.heap.size w V) (h2 : But (fun k => w.heap.size ≤ k ∧ k ≠ bb) V w') : Below w.heap.size w w' := by
  have f0 : But (fun k => w.heap.size ≤ k) w w' := (But.ofBelow h1 _).trans h2 fun k _ hk => hk.1
  exact ⟨f0.os, f0.tape, f0.output, f0.size, fun k hk => f0.block k hk (by omega)⟩

def ex1 : Bxs := [(5, ⟨0, 0, 1, 1⟩)]
def ex2 : Bxs := [(3, ⟨1, 0, 2, 1⟩), (5, ⟨0, 0, 1, 1⟩)]
theorem k3 : i64k 3 := by unfold i64k; omega
theorem k5 : i64k 5 := by unfold i64k; omega

set_option maxRecDepth 100000 in
set_option maxHeartbeats 64000000 in
theorem example20_b (w : World) : Calls Try.prog 10 #[] w fun e w' => e = .returned (.bool true) ∧ Below w.heap.size w w' := by
  have cI1 := fun a => ins_c a [] ex1 5 0 0 1 1 0 k5 (by decide) (by decide)
  have cI2 := fun a => ins_c a ex1 ex2 3 1 0 2 1 0 k3 (by decide) (by decide)
  have cI3 := fun a => ins_c a ex2 ex2 3 9 0 10 1 7 k3 (by decide) (by decide)
  have cB : ∀ a w S, TreeAt w a ex2 S → Calls Try.prog 14 #[.pointer (some ⟨a, 0, none⟩), .int .i64 3] w fun e w' => e = .returned (.tuple #[.agg #[.int .i64 1, .int .i64 0, .int .i64 2, .int .i64 1], .bool true]) ∧ Below w.heap.size w w' := fun a w S h => by
    have := bounds_b a ex2 S 3 k3 w h
    rw [show look ex2 3 = some ⟨1, 0, 2, 1⟩ by decide] at this; exact this
  go_enter Try.func10, Try.ntmps10
  go_upto_region 2 with (go_at_call 11; with_reducible_and_instances refine Calls.mono (new_b _) ?_; rintro e W0 ⟨rfl, kt, hb0⟩; have hT0 := new_tree kt; clear kt)
  go_wp2_with (first | (go_at_call 28; refine Calls.mono (gw_at (ubox_b _ (by omega) (by omega) _)) ?_; rintro e w1 ⟨rfl, q, rfl⟩) | (go_at_call 25; fail "x"))
  refine turn_use (cI1 _) (hT0.below bBel) ?_
  intro W1 S1 hT1 hs1
  go_wp2_with (first | (go_at_call 28; refine Calls.mono (gw_at (ubox_b _ (by omega) (by omega) _)) ?_; rintro e w1 ⟨rfl, q, rfl⟩) | (go_at_call 25; fail "x"))
  refine turn_use (cI2 _) (hT1.below bBel) ?_
  intro W2 S2 hT2 hs2
  go_wp2_with (first | (go_at_call 28; refine Calls.mono (gw_at (ubox_b _ (by omega) (by omega) _)) ?_; rintro e w1 ⟨rfl, q, rfl⟩) | (go_at_call 25; fail "x"))
  refine turn_use (cI3 _) (hT2.below bBel) ?_
  intro W3 S3 hT3 hs3
  go_upto_region 3 with fail
  have z0 := hb0.size
  have hs : Hid ((∀ k, S3 k → w.heap.size ≤ k) ∧ w.heap.size ≤ W3.heap.size ∧ Below w.heap.size w W3) := by
    obtain ⟨b1, c1⟩ := hs1.out
    obtain ⟨b2, c2⟩ := hs2.out
    obtain ⟨b3, c3⟩ := hs3.out
    have z1 := b1.size; have z2 := b2.size; have z3 := b3.size
    simp only [size_gw] at z1 z2 z3 c1 c2 c3
    have d1 : ∀ k, S1 k → w.heap.size ≤ k := fun k hk => by rcases c1 k hk with h | h <;> omega
    have d2 : ∀ k, S2 k → w.heap.size ≤ k := fun k hk => by
      rcases c2 k hk with h | h
      · exact d1 k h
      · omega
    have f0 : But (fun k => w.heap.size ≤ k) w W3 := ((((((But.ofBelow hb0 _).below (below_gw _ _)).trans b1 (fun k _ h => by have : k = w.heap.size := h; omega)).below (below_gw _ _)).trans b2 (fun k _ h => d1 k h)).below (below_gw _ _)).trans b3 (fun k _ h => d2 k h)
    refine ⟨fun k hk => ?_, by omega, ⟨f0.os, f0.tape, f0.output, f0.size, fun k hk => f0.block k hk (by omega)⟩⟩
    rcases c3 k hk with h | h
    · exact d2 k h
    · omega
  clear hs1 hs2 hs3 hT0 hT1 hT2 hb0 z0
  clear cI1 cI2 cI3
  go_upto_region 4 with (go_at_call 14; refine Calls.mono (gw_at (cB _ _ _ (hT3.below bBel))) ?_; rintro e w1 ⟨rfl, q9, rfl⟩)
  refine wp_named ?_
  intro V hV
  have kb : blk V (W3.heap.size + q9.os.size) #[.int .i64 1, .int .i64 0, .int .i64 2, .int .i64 1] 26 := by rw [hV]; exact bBkn
  have hT : TreeAt V w.heap.size ex2 S3 := by rw [hV]; exact hT3.below bBel
  have hbV : Below W3.heap.size W3 V := by rw [hV]; exact bBel
  clear hV cB
  have hbwV : Below w.heap.size w V := Below.trans hs.out.2.2 (hbV.mono hs.out.2.1)
  have hlt3 := hT3.lt
  have hS : Hid (∀ k, S3 k → w.heap.size ≤ k ∧ k ≠ W3.heap.size + q9.os.size) := fun k hk => ⟨hs.out.1 k hk, by have := hlt3 k hk; omega⟩
  have hbb := blk_lt kb
  have hVP : Hid (∀ k, V.heap.size ≤ k → w.heap.size ≤ k ∧ k ≠ W3.heap.size + q9.os.size) := fun k hk => ⟨by have := hbwV.size; omega, by omega⟩
  clear hlt3 hs hT3 hbV
  generalize W3.heap.size + q9.os.size = bb at *
  have cP : ∀ w S a, TreeAt w a ex2 S → Calls Try.prog 22 #[.pointer (some ⟨a, 0, none⟩)] w fun e w' => (∃ v, e = .returned v ∧ w'.ownsRow w.heap.size 41 2 v [((3 : Int), (5 : Int))].length (pv [(3, 5)])) ∧ Below w.heap.size w w' := fun w S a h => by
    have := pairs_b a ex2 S w h
    rw [show prL ex2 = [(3, 5)] by decide] at this; exact this
  have cN : ∀ w S a, TreeAt w a ex2 S → Calls Try.prog 17 #[.pointer (some ⟨a, 0, none⟩)] w fun e w' => e = .returned (.int .i64 2) ∧ Below w.heap.size w w' := fun w S a h => len_b a ex2 S w h
  have cQ : ∀ w S a, TreeAt w a ex1 S → Calls Try.prog 19 #[.pointer (some ⟨a, 0, none⟩), .agg #[.int .i64 1, .int .i64 0, .int .i64 2, .int .i64 1]] w fun e w' => (∃ v, e = .returned v ∧ w'.ownsRow w.heap.size 3 1 v [(5 : Int)].length (iv [5])) ∧ Below w.heap.size w w' := fun w S a h => by
    have := query_b a ex1 S 1 0 2 1 w h
    rw [show hitL ex1 (fun b => Bx.ovl b ⟨1, 0, 2, 1⟩) = [5] by decide] at this; exact this
  have cR1 := fun a => rem_c a ex2 ex1 3 true k3 (by decide) (by decide)
  have cR2 := fun a => rem_c a ex1 ex1 3 false k3 (by decide) (by decide)
  have hcellB : ∀ w', But (fun k => w.heap.size ≤ k ∧ k ≠ bb) V w' → But (fun k => w.heap.size ≤ k ∧ k ≠ bb) V w' ∧ w'.cell? ⟨bb, 0, none⟩ = some (.int .i64 1) ∧ w'.cell? ⟨bb, 1, none⟩ = some (.int .i64 0) ∧ w'.cell? ⟨bb, 2, none⟩ = some (.int .i64 2) ∧ w'.cell? ⟨bb, 3, none⟩ = some (.int .i64 1) := fun w' h => by
    have k2 := h.blk kb (fun h => h.2 rfl)
    exact ⟨h, blk_cell k2 0, blk_cell k2 1, blk_cell k2 2, blk_cell k2 3⟩
  obtain ⟨-, d0, d1, d2, d3⟩ := hcellB V (But.refl _ _)
  go_region_held3 (fun w' => But (fun k => w.heap.size ≤ k ∧ k ≠ bb) V w' ∧ w'.cell? ⟨bb, 0, none⟩ = some (.int .i64 1) ∧ w'.cell? ⟨bb, 1, none⟩ = some (.int .i64 0) ∧ w'.cell? ⟨bb, 2, none⟩ = some (.int .i64 2) ∧ w'.cell? ⟨bb, 3, none⟩ = some (.int .i64 1)) (first | (refine hcellB _ ?_; exact bBut)) (first
    | (go_at_call 28; refine Calls.mono (gw_at (ubox_b _ (by omega) (by omega) _)) ?_; rintro e w1 ⟨rfl, qu, rfl⟩)
    | (go_at_call 22; refine Calls.mono (gw_ex (cP _ _ _ (hT.below bBel))) ?_; rintro e w1 ⟨⟨vP, rfl, hoP⟩, qP, rfl⟩)
    | (go_at_call 21; refine Calls.mono (gw_at (eqpairs_b _ _ _ _ [(3, 5)] [(3, 5)] _ (owns_below hoP bBel) (own_one2 bBkn) true rfl (by decide))) ?_; rintro e w1 ⟨rfl, qe, rfl⟩)
    | (go_at_call 17; refine Calls.mono (gw_at (cN _ _ _ (hT.below bBel))) ?_; rintro e w1 ⟨rfl, qn, rfl⟩)
    | (go_at_call 29; refine Calls.mono (gw_at (height_one _ ex1 _ _ (hT6.below bBel) rfl)) ?_; rintro e w1 ⟨rfl, qh, rfl⟩)
    | (go_at_call 29; refine Calls.mono (gw_at (height_two _ ex2 _ _ (hT.below bBel) rfl)) ?_; rintro e w1 ⟨rfl, qh, rfl⟩)
    | (go_at_call 26; refine turn_useV (cR2 _) (hT5.below bBel) bBut hS5 hVP ?_; intro W6 S6 hT6 hS6 hB6)
    | (go_at_call 26; refine turn_useV (cR1 _) (hT.below bBel) bBut hS hVP ?_; intro W5 S5 hT5 hS5 hB5)
    | (go_at_call 19; refine Calls.mono (gw_ex (cQ _ _ _ (hT6.below bBel))) ?_; rintro e w1 ⟨⟨vQ, rfl, hoQ⟩, qQ, rfl⟩)
    | (go_at_call 18; refine Calls.mono (gw_at (eqints_b _ _ _ _ [5] [5] _ (owns_below hoQ bBel) (own_one1 bBkn) true rfl (by decide))) ?_; rintro e w1 ⟨rfl, qi, rfl⟩))
  all_goals
    go_wp2_with fail
  all_goals
    go_ret
    exact ⟨rfl, bel_but hbwV bBut⟩

end Go.Proofs.Ytdldlcibjjccpaa
