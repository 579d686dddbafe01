/- Chapter 20: balance, mend. -/
import Derived.Test.YtfhhkabdeajieaaBvN
import Derived.Deep.LoopGhost
import Derived.Deep.DeepCutAuto
set_option linter.unusedVariables false
set_option linter.unusedSimpArgs false
namespace Go.Proofs.Ytfhhkabdeajieaa
open Go.RowKit Fx

/-- split at the nodes of a memory. -/
theorem split_r (n a b : Nat) (M : Nat → Nd) (S : Nat → Prop) (w : World) (hR : Rep w M S) (sn : S n) (sa : S a) (sb : S b) (hl : (M n).l = some a) (hr : (M n).r = some b) (hab : a ≠ b) (q0 q1 q2 q3 : Int) (hA : 0 ≤ (M a).h ∧ (M a).h ≤ 1000000000) (hB : 0 ≤ (M b).h ∧ (M b).h ≤ 1000000000) :
    Calls Try.prog 122 #[.pointer (some ⟨n, 0, none⟩), .agg #[.int .i64 q0, .int .i64 q1, .int .i64 q2, .int .i64 q3]] w fun e w' => (∃ g k, Hid (((g = a ∧ k = b) ∨ (g = b ∧ k = a)) ∧ (M g).h ≤ (M k).h) ∧ e = .returned (.tuple #[.pointer (some ⟨g, 0, none⟩), .pointer (some ⟨k, 0, none⟩)])) ∧ Below w.heap.size w w' := by
  refine (split_b n a b (M n) (M a) (M b) w (hR n sn) (hR a sa) (hR b sb) hl hr hab q0 q1 q2 q3 hA hB).mono ?_
  rintro e w' ⟨⟨rfl, h⟩ | ⟨rfl, h⟩, hb⟩
  · exact ⟨⟨a, b, ⟨.inl ⟨rfl, rfl⟩, h⟩, rfl⟩, hb⟩
  · exact ⟨⟨b, a, ⟨.inr ⟨rfl, rfl⟩, h⟩, rfl⟩, hb⟩

set_option maxRecDepth 100000 in
set_option maxHeartbeats 4000000 in
theorem flat0 (t n a b : Nat) (root : Option Nat) (mv : Value) (M : Nat → Nd) (S : Nat → Prop) (w : World) (hR : Rep w M S) (kt : blk w t #[nptr root, mv] 78) (tS : ¬ S t) (sn : S n) (sa : S a) (sb : S b) (hl : (M n).l = some a) (hr : (M n).r = some b) (na : n ≠ a) (nb : n ≠ b) (ab : a ≠ b) (hA : 0 ≤ (M a).h ∧ (M a).h ≤ 500000000) (hB : 0 ≤ (M b).h ∧ (M b).h ≤ 500000000) (hc : (M a).h ≤ (M b).h) (hd : (M b).h ≤ (M a).h + 1) : Calls Try.prog 114 #[.pointer (some ⟨t, 0, none⟩), .pointer (some ⟨n, 0, none⟩)] w fun e w' => e = .returned (.pointer (some ⟨n, 0, none⟩)) ∧ Rep w' (adM M n a b) S ∧ blk w' t #[nptr root, mv] 78 ∧ But (fun k => k = t ∨ S k) w w' := by
  have cA := fun w' (h : Below w.heap.size w w') => adopt_r n a b M S w' (hR.below h) sn sa sb na nb ab ⟨by omega, by omega⟩ ⟨by omega, by omega⟩
  have kn := hR n sn
  have ka := hR a sa
  have kb := hR b sb
  obtain ⟨N, hN⟩ : ∃ N, M n = N := ⟨_, rfl⟩
  obtain ⟨A, hNA⟩ : ∃ A, M a = A := ⟨_, rfl⟩
  obtain ⟨B, hNB⟩ : ∃ B, M b = B := ⟨_, rfl⟩
  rw [hN] at kn hl hr
  rw [hNA] at ka hA hc hd
  rw [hNB] at kb hB hc hd
  clear hN hNA hNB
  obtain ⟨iN, ⟨x0N, y0N, x1N, y1N⟩, hN, pN, lN, rN⟩ := N
  obtain ⟨iA, ⟨x0A, y0A, x1A, y1A⟩, hA', pA, lA, rA⟩ := A
  obtain ⟨iB, ⟨x0B, y0B, x1B, y1B⟩, hB', pB, lB, rB⟩ := B
  dsimp only at hl hr hA hB hc hd
  subst hl hr
  simp only [ndc, nptr_some] at kn ka kb
  generalize nptr pN = PN at *
  generalize nptr pA = PA at *
  generalize nptr lA = LA at *
  generalize nptr rA = RA at *
  generalize nptr pB = PB at *
  generalize nptr lB = LB at *
  generalize nptr rB = RB at *
  obtain ⟨h1, h2⟩ := hA
  obtain ⟨h3, h4⟩ := hB
  have okn := blk_older kn
  have ckn_0 : _ = some _ := blk_cell kn 0
  have ckn_1 : _ = some _ := blk_cell kn 1
  have ckn_2 : _ = some _ := blk_cell kn 2
  have ckn_3 : _ = some _ := blk_cell kn 3
  have ckn_4 : _ = some _ := blk_cell kn 4
  have ckn_5 : _ = some _ := blk_cell kn 5
  have ckn_6 : _ = some _ := blk_cell kn 6
  have ckn_7 : _ = some _ := blk_cell kn 7
  have ckn_8 : _ = some _ := blk_cell kn 8
  have fkn_0 := blk_free kn 0
  have fkn_1 := blk_free kn 1
  have fkn_2 := blk_free kn 2
  have fkn_3 := blk_free kn 3
  have fkn_4 := blk_free kn 4
  have fkn_5 := blk_free kn 5
  have fkn_6 := blk_free kn 6
  have fkn_7 := blk_free kn 7
  have fkn_8 := blk_free kn 8
  have oka := blk_older ka
  have cka_0 : _ = some _ := blk_cell ka 0
  have cka_1 : _ = some _ := blk_cell ka 1
  have cka_2 : _ = some _ := blk_cell ka 2
  have cka_3 : _ = some _ := blk_cell ka 3
  have cka_4 : _ = some _ := blk_cell ka 4
  have cka_5 : _ = some _ := blk_cell ka 5
  have cka_6 : _ = some _ := blk_cell ka 6
  have cka_7 : _ = some _ := blk_cell ka 7
  have cka_8 : _ = some _ := blk_cell ka 8
  have fka_0 := blk_free ka 0
  have fka_1 := blk_free ka 1
  have fka_2 := blk_free ka 2
  have fka_3 := blk_free ka 3
  have fka_4 := blk_free ka 4
  have fka_5 := blk_free ka 5
  have fka_6 := blk_free ka 6
  have fka_7 := blk_free ka 7
  have fka_8 := blk_free ka 8
  have okb := blk_older kb
  have ckb_0 : _ = some _ := blk_cell kb 0
  have ckb_1 : _ = some _ := blk_cell kb 1
  have ckb_2 : _ = some _ := blk_cell kb 2
  have ckb_3 : _ = some _ := blk_cell kb 3
  have ckb_4 : _ = some _ := blk_cell kb 4
  have ckb_5 : _ = some _ := blk_cell kb 5
  have ckb_6 : _ = some _ := blk_cell kb 6
  have ckb_7 : _ = some _ := blk_cell kb 7
  have ckb_8 : _ = some _ := blk_cell kb 8
  have fkb_0 := blk_free kb 0
  have fkb_1 := blk_free kb 1
  have fkb_2 := blk_free kb 2
  have fkb_3 := blk_free kb 3
  have fkb_4 := blk_free kb 4
  have fkb_5 := blk_free kb 5
  have fkb_6 := blk_free kb 6
  have fkb_7 := blk_free kb 7
  have fkb_8 := blk_free kb 8
  go_enter Try.func114, Try.ntmps114
  go_wp2_with fail
  refine wp_region_gw (by kernel_rfl) (by kernel_rfl) ?_
  repeat (go_big_quiet_step (fail))
  refine wpQuiet_nil ?_
  intro w1 hw1
  obtain ⟨q, rfl⟩ := hw1
  go_wp2_with fail
  refine wp_region_gw (by kernel_rfl) (by kernel_rfl) ?_
  repeat (go_big_quiet_step (fail))
  refine wpQuiet_nil ?_
  intro w1 hw1
  obtain ⟨q, rfl⟩ := hw1
  go_wp2_with fail
  refine wp_region_gw (by kernel_rfl) (by kernel_rfl) ?_
  repeat (go_big_quiet_step (fail))
  refine wpQuiet_nil ?_
  intro w1 hw1
  obtain ⟨q, rfl⟩ := hw1
  go_wp2_with (go_at_call 89; with_reducible_and_instances refine Calls.mono (cA _ bBel) ?_; rintro e w1 ⟨rfl, hR1, hb1⟩)
  go_ret
  refine ⟨rfl, hR1, hb1.blk (by apply blk_of; (repeat (first | with_reducible exact kt | with_reducible apply blk_drew | with_reducible apply blk_gw | with_reducible apply blk_alloc | with_reducible apply blk_set | ((with_reducible apply blk_other); focus omega))); (first | rfl | simp)) tS, ?_⟩
  exact ((But.refl _ _).below bBel).trans hb1 (fun _ _ h => .inr h)

set_option maxRecDepth 100000 in
set_option maxHeartbeats 4000000 in
theorem lift0 (t n a b : Nat) (root : Option Nat) (mv : Value) (M : Nat → Nd) (S : Nat → Prop) (w : World) (hR : Rep w M S) (kt : blk w t #[nptr root, mv] 78) (tS : ¬ S t) (sn : S n) (sa : S a) (sb : S b) (hl : (M n).l = some a) (hr : (M n).r = some b) (na : n ≠ a) (nb : n ≠ b) (ab : a ≠ b) (hA : 0 ≤ (M a).h ∧ (M a).h ≤ 500000000) (hB : 0 ≤ (M b).h ∧ (M b).h ≤ 500000000) (hc : (M a).h ≤ (M b).h) (hd : (M a).h + 1 < (M b).h) (g0 g1 : Nat) (s0 : S g0) (s1 : S g1) (hg0 : (M b).l = some g0) (hg1 : (M b).r = some g1) (gg : g0 ≠ g1) (ng0 : n ≠ g0) (ng1 : n ≠ g1) (lg0 : a ≠ g0) (lg1 : a ≠ g1) (hg0' : b ≠ g0) (hg1' : b ≠ g1)
    (hG0 : 0 ≤ (M g0).h ∧ (M g0).h ≤ 500000000) (hG1 : 0 ≤ (M g1).h ∧ (M g1).h ≤ 500000000) (hq : ∀ q, (M n).p = some q → S q ∧ b ≠ q ∧ n ≠ q ∧ ∃ s, (M q).l = some s ∧ (s ≠ n → S s ∧ s ≠ b)) : Calls Try.prog 114 #[.pointer (some ⟨t, 0, none⟩), .pointer (some ⟨n, 0, none⟩)] w fun e w' => e = .returned (.pointer (some ⟨b, 0, none⟩)) ∧ ∃ g k, Hid (((g = g0 ∧ k = g1) ∨ (g = g1 ∧ k = g0)) ∧ (M g).h ≤ (M k).h) ∧ Rep w' (adM (adM (replM M n b) n a g) b n k) S ∧ blk w' t #[nptr (replR M n b root), mv] 78 ∧ But (fun k => k = t ∨ S k) w w' := by
  have cS := fun q0 q1 q2 q3 w' (h : Below w.heap.size w w') => split_r b g0 g1 M S w' (hR.below h) sb s0 s1 hg0 hg1 gg q0 q1 q2 q3 ⟨hG0.1, by omega⟩ ⟨hG1.1, by omega⟩
  have cR := fun w' (h : Below w.heap.size w w') => replace_r t n b root mv M S w' (hR.below h) (blk_below h kt) tS sn sb (Ne.symm nb) hq
  have cA := fun g k (hgk : Hid (((g = g0 ∧ k = g1) ∨ (g = g1 ∧ k = g0)) ∧ (M g).h ≤ (M k).h)) w' (h : Rep w' (replM M n b) S) => adopt_r n a g (replM M n b) S w' h sn sa (by rcases hgk.out.1 with ⟨rfl, _⟩ | ⟨rfl, _⟩ <;> assumption) na (by rcases hgk.out.1 with ⟨rfl, _⟩ | ⟨rfl, _⟩ <;> assumption) (by rcases hgk.out.1 with ⟨rfl, _⟩ | ⟨rfl, _⟩ <;> assumption) (by rw [replM_h]; omega) (by rw [replM_h]; rcases hgk.out.1 with ⟨rfl, _⟩ | ⟨rfl, _⟩ <;> omega)
  have cB := fun g k (hgk : Hid (((g = g0 ∧ k = g1) ∨ (g = g1 ∧ k = g0)) ∧ (M g).h ≤ (M k).h)) w' (h : Rep w' (adM (replM M n b) n a g) S) => adopt_r b n k (adM (replM M n b) n a g) S w' h sb sn (by rcases hgk.out.1 with ⟨_, rfl⟩ | ⟨_, rfl⟩ <;> assumption) (Ne.symm nb) (by rcases hgk.out.1 with ⟨_, rfl⟩ | ⟨_, rfl⟩ <;> assumption) (by rcases hgk.out.1 with ⟨_, rfl⟩ | ⟨_, rfl⟩ <;> assumption)
    (by simp only [adM, if_true, replM_h]; rcases hgk.out.1 with ⟨rfl, _⟩ | ⟨rfl, _⟩ <;> omega)
    (by rcases hgk.out.1 with ⟨rfl, rfl⟩ | ⟨rfl, rfl⟩ <;> rw [adM_other (by omega) (by omega) (by omega), replM_h] <;> omega)
  generalize hX1 : replM M n b = M1 at *
  generalize hX0 : replR M n b root = root1 at *
  clear hX1 hX0 hq
  clear hg0 hg1 hG0 hG1
  have kn := hR n sn
  have ka := hR a sa
  have kb := hR b sb
  obtain ⟨N, hN⟩ : ∃ N, M n = N := ⟨_, rfl⟩
  obtain ⟨A, hNA⟩ : ∃ A, M a = A := ⟨_, rfl⟩
  obtain ⟨B, hNB⟩ : ∃ B, M b = B := ⟨_, rfl⟩
  rw [hN] at kn hl hr
  rw [hNA] at ka hA hc hd
  rw [hNB] at kb hB hc hd
  clear hN hNA hNB
  obtain ⟨iN, ⟨x0N, y0N, x1N, y1N⟩, hN, pN, lN, rN⟩ := N
  obtain ⟨iA, ⟨x0A, y0A, x1A, y1A⟩, hA', pA, lA, rA⟩ := A
  obtain ⟨iB, ⟨x0B, y0B, x1B, y1B⟩, hB', pB, lB, rB⟩ := B
  dsimp only at hl hr hA hB hc hd
  subst hl hr
  simp only [ndc, nptr_some] at kn ka kb
  generalize nptr pN = PN at *
  generalize nptr pA = PA at *
  generalize nptr lA = LA at *
  generalize nptr rA = RA at *
  generalize nptr pB = PB at *
  generalize nptr lB = LB at *
  generalize nptr rB = RB at *
  obtain ⟨h1, h2⟩ := hA
  obtain ⟨h3, h4⟩ := hB
  have okn := blk_older kn
  have ckn_0 : _ = some _ := blk_cell kn 0
  have ckn_1 : _ = some _ := blk_cell kn 1
  have ckn_2 : _ = some _ := blk_cell kn 2
  have ckn_3 : _ = some _ := blk_cell kn 3
  have ckn_4 : _ = some _ := blk_cell kn 4
  have ckn_5 : _ = some _ := blk_cell kn 5
  have ckn_6 : _ = some _ := blk_cell kn 6
  have ckn_7 : _ = some _ := blk_cell kn 7
  have ckn_8 : _ = some _ := blk_cell kn 8
  have fkn_0 := blk_free kn 0
  have fkn_1 := blk_free kn 1
  have fkn_2 := blk_free kn 2
  have fkn_3 := blk_free kn 3
  have fkn_4 := blk_free kn 4
  have fkn_5 := blk_free kn 5
  have fkn_6 := blk_free kn 6
  have fkn_7 := blk_free kn 7
  have fkn_8 := blk_free kn 8
  have oka := blk_older ka
  have cka_0 : _ = some _ := blk_cell ka 0
  have cka_1 : _ = some _ := blk_cell ka 1
  have cka_2 : _ = some _ := blk_cell ka 2
  have cka_3 : _ = some _ := blk_cell ka 3
  have cka_4 : _ = some _ := blk_cell ka 4
  have cka_5 : _ = some _ := blk_cell ka 5
  have cka_6 : _ = some _ := blk_cell ka 6
  have cka_7 : _ = some _ := blk_cell ka 7
  have cka_8 : _ = some _ := blk_cell ka 8
  have fka_0 := blk_free ka 0
  have fka_1 := blk_free ka 1
  have fka_2 := blk_free ka 2
  have fka_3 := blk_free ka 3
  have fka_4 := blk_free ka 4
  have fka_5 := blk_free ka 5
  have fka_6 := blk_free ka 6
  have fka_7 := blk_free ka 7
  have fka_8 := blk_free ka 8
  have okb := blk_older kb
  have ckb_0 : _ = some _ := blk_cell kb 0
  have ckb_1 : _ = some _ := blk_cell kb 1
  have ckb_2 : _ = some _ := blk_cell kb 2
  have ckb_3 : _ = some _ := blk_cell kb 3
  have ckb_4 : _ = some _ := blk_cell kb 4
  have ckb_5 : _ = some _ := blk_cell kb 5
  have ckb_6 : _ = some _ := blk_cell kb 6
  have ckb_7 : _ = some _ := blk_cell kb 7
  have ckb_8 : _ = some _ := blk_cell kb 8
  have fkb_0 := blk_free kb 0
  have fkb_1 := blk_free kb 1
  have fkb_2 := blk_free kb 2
  have fkb_3 := blk_free kb 3
  have fkb_4 := blk_free kb 4
  have fkb_5 := blk_free kb 5
  have fkb_6 := blk_free kb 6
  have fkb_7 := blk_free kb 7
  have fkb_8 := blk_free kb 8
  go_enter Try.func114, Try.ntmps114
  go_wp2_with fail
  refine wp_region_gw (by kernel_rfl) (by kernel_rfl) ?_
  repeat (go_big_quiet_step (fail))
  refine wpQuiet_nil ?_
  intro w1 hw1
  obtain ⟨q, rfl⟩ := hw1
  go_wp2_with fail
  refine wp_region_gw (by kernel_rfl) (by kernel_rfl) ?_
  repeat (go_big_quiet_step (fail))
  refine wpQuiet_nil ?_
  intro w1 hw1
  obtain ⟨q, rfl⟩ := hw1
  go_wp2_with fail
  refine wp_region_gw (by kernel_rfl) (by kernel_rfl) ?_
  repeat (go_big_quiet_step (fail))
  refine wpQuiet_nil ?_
  intro w1 hw1
  obtain ⟨q, rfl⟩ := hw1
  go_wp2_with (first | (go_at_call 122; with_reducible_and_instances refine Calls.mono (cS _ _ _ _ _ bBel) ?_; rintro e w1 ⟨⟨g, k, hgk, rfl⟩, hb1⟩; obtain ⟨q, rfl⟩ := gw_of_below hb1) | (go_at_call 88; with_reducible_and_instances refine Calls.mono (cR _ bBel) ?_; rintro e w2 ⟨rfl, hR2, kt2, hb2⟩) | (go_at_call 89; with_reducible_and_instances refine Calls.mono (cA g k hgk _ hR2) ?_; rintro e w3 ⟨rfl, hR3, hb3⟩) | (go_at_call 89; with_reducible_and_instances refine Calls.mono (cB g k hgk _ hR3) ?_; rintro e w4 ⟨rfl, hR4, hb4⟩))
  go_ret
  refine ⟨rfl, g, k, hgk, hR4, hb4.blk (hb3.blk kt2 tS) tS, ?_⟩
  exact (((((But.refl _ _).below bBel).trans hb2 fun _ _ h => h)).trans hb3 (fun _ _ h => .inr h)).trans hb4 (fun _ _ h => .inr h)

set_option maxRecDepth 100000 in
set_option maxHeartbeats 4000000 in
theorem flat1 (t n a b : Nat) (root : Option Nat) (mv : Value) (M : Nat → Nd) (S : Nat → Prop) (w : World) (hR : Rep w M S) (kt : blk w t #[nptr root, mv] 78) (tS : ¬ S t) (sn : S n) (sa : S a) (sb : S b) (hl : (M n).l = some a) (hr : (M n).r = some b) (na : n ≠ a) (nb : n ≠ b) (ab : a ≠ b) (hA : 0 ≤ (M a).h ∧ (M a).h ≤ 500000000) (hB : 0 ≤ (M b).h ∧ (M b).h ≤ 500000000) (hc : (M b).h < (M a).h) (hd : (M a).h ≤ (M b).h + 1) : Calls Try.prog 114 #[.pointer (some ⟨t, 0, none⟩), .pointer (some ⟨n, 0, none⟩)] w fun e w' => e = .returned (.pointer (some ⟨n, 0, none⟩)) ∧ Rep w' (adM M n b a) S ∧ blk w' t #[nptr root, mv] 78 ∧ But (fun k => k = t ∨ S k) w w' := by
  have cA := fun w' (h : Below w.heap.size w w') => adopt_r n b a M S w' (hR.below h) sn sb sa nb na (Ne.symm ab) ⟨by omega, by omega⟩ ⟨by omega, by omega⟩
  have kn := hR n sn
  have ka := hR a sa
  have kb := hR b sb
  obtain ⟨N, hN⟩ : ∃ N, M n = N := ⟨_, rfl⟩
  obtain ⟨A, hNA⟩ : ∃ A, M a = A := ⟨_, rfl⟩
  obtain ⟨B, hNB⟩ : ∃ B, M b = B := ⟨_, rfl⟩
  rw [hN] at kn hl hr
  rw [hNA] at ka hA hc hd
  rw [hNB] at kb hB hc hd
  clear hN hNA hNB
  obtain ⟨iN, ⟨x0N, y0N, x1N, y1N⟩, hN, pN, lN, rN⟩ := N
  obtain ⟨iA, ⟨x0A, y0A, x1A, y1A⟩, hA', pA, lA, rA⟩ := A
  obtain ⟨iB, ⟨x0B, y0B, x1B, y1B⟩, hB', pB, lB, rB⟩ := B
  dsimp only at hl hr hA hB hc hd
  subst hl hr
  simp only [ndc, nptr_some] at kn ka kb
  generalize nptr pN = PN at *
  generalize nptr pA = PA at *
  generalize nptr lA = LA at *
  generalize nptr rA = RA at *
  generalize nptr pB = PB at *
  generalize nptr lB = LB at *
  generalize nptr rB = RB at *
  obtain ⟨h1, h2⟩ := hA
  obtain ⟨h3, h4⟩ := hB
  have okn := blk_older kn
  have ckn_0 : _ = some _ := blk_cell kn 0
  have ckn_1 : _ = some _ := blk_cell kn 1
  have ckn_2 : _ = some _ := blk_cell kn 2
  have ckn_3 : _ = some _ := blk_cell kn 3
  have ckn_4 : _ = some _ := blk_cell kn 4
  have ckn_5 : _ = some _ := blk_cell kn 5
  have ckn_6 : _ = some _ := blk_cell kn 6
  have ckn_7 : _ = some _ := blk_cell kn 7
  have ckn_8 : _ = some _ := blk_cell kn 8
  have fkn_0 := blk_free kn 0
  have fkn_1 := blk_free kn 1
  have fkn_2 := blk_free kn 2
  have fkn_3 := blk_free kn 3
  have fkn_4 := blk_free kn 4
  have fkn_5 := blk_free kn 5
  have fkn_6 := blk_free kn 6
  have fkn_7 := blk_free kn 7
  have fkn_8 := blk_free kn 8
  have oka := blk_older ka
  have cka_0 : _ = some _ := blk_cell ka 0
  have cka_1 : _ = some _ := blk_cell ka 1
  have cka_2 : _ = some _ := blk_cell ka 2
  have cka_3 : _ = some _ := blk_cell ka 3
  have cka_4 : _ = some _ := blk_cell ka 4
  have cka_5 : _ = some _ := blk_cell ka 5
  have cka_6 : _ = some _ := blk_cell ka 6
  have cka_7 : _ = some _ := blk_cell ka 7
  have cka_8 : _ = some _ := blk_cell ka 8
  have fka_0 := blk_free ka 0
  have fka_1 := blk_free ka 1
  have fka_2 := blk_free ka 2
  have fka_3 := blk_free ka 3
  have fka_4 := blk_free ka 4
  have fka_5 := blk_free ka 5
  have fka_6 := blk_free ka 6
  have fka_7 := blk_free ka 7
  have fka_8 := blk_free ka 8
  have okb := blk_older kb
  have ckb_0 : _ = some _ := blk_cell kb 0
  have ckb_1 : _ = some _ := blk_cell kb 1
  have ckb_2 : _ = some _ := blk_cell kb 2
  have ckb_3 : _ = some _ := blk_cell kb 3
  have ckb_4 : _ = some _ := blk_cell kb 4
  have ckb_5 : _ = some _ := blk_cell kb 5
  have ckb_6 : _ = some _ := blk_cell kb 6
  have ckb_7 : _ = some _ := blk_cell kb 7
  have ckb_8 : _ = some _ := blk_cell kb 8
  have fkb_0 := blk_free kb 0
  have fkb_1 := blk_free kb 1
  have fkb_2 := blk_free kb 2
  have fkb_3 := blk_free kb 3
  have fkb_4 := blk_free kb 4
  have fkb_5 := blk_free kb 5
  have fkb_6 := blk_free kb 6
  have fkb_7 := blk_free kb 7
  have fkb_8 := blk_free kb 8
  go_enter Try.func114, Try.ntmps114
  go_wp2_with fail
  refine wp_region_gw (by kernel_rfl) (by kernel_rfl) ?_
  repeat (go_big_quiet_step (fail))
  refine wpQuiet_nil ?_
  intro w1 hw1
  obtain ⟨q, rfl⟩ := hw1
  go_wp2_with fail
  refine wp_region_gw (by kernel_rfl) (by kernel_rfl) ?_
  repeat (go_big_quiet_step (fail))
  refine wpQuiet_nil ?_
  intro w1 hw1
  obtain ⟨q, rfl⟩ := hw1
  go_wp2_with fail
  refine wp_region_gw (by kernel_rfl) (by kernel_rfl) ?_
  repeat (go_big_quiet_step (fail))
  refine wpQuiet_nil ?_
  intro w1 hw1
  obtain ⟨q, rfl⟩ := hw1
  go_wp2_with (go_at_call 89; with_reducible_and_instances refine Calls.mono (cA _ bBel) ?_; rintro e w1 ⟨rfl, hR1, hb1⟩)
  go_ret
  refine ⟨rfl, hR1, hb1.blk (by apply blk_of; (repeat (first | with_reducible exact kt | with_reducible apply blk_drew | with_reducible apply blk_gw | with_reducible apply blk_alloc | with_reducible apply blk_set | ((with_reducible apply blk_other); focus omega))); (first | rfl | simp)) tS, ?_⟩
  exact ((But.refl _ _).below bBel).trans hb1 (fun _ _ h => .inr h)

set_option maxRecDepth 100000 in
set_option maxHeartbeats 4000000 in
theorem lift1 (t n a b : Nat) (root : Option Nat) (mv : Value) (M : Nat → Nd) (S : Nat → Prop) (w : World) (hR : Rep w M S) (kt : blk w t #[nptr root, mv] 78) (tS : ¬ S t) (sn : S n) (sa : S a) (sb : S b) (hl : (M n).l = some a) (hr : (M n).r = some b) (na : n ≠ a) (nb : n ≠ b) (ab : a ≠ b) (hA : 0 ≤ (M a).h ∧ (M a).h ≤ 500000000) (hB : 0 ≤ (M b).h ∧ (M b).h ≤ 500000000) (hc : (M b).h < (M a).h) (hd : (M b).h + 1 < (M a).h) (g0 g1 : Nat) (s0 : S g0) (s1 : S g1) (hg0 : (M a).l = some g0) (hg1 : (M a).r = some g1) (gg : g0 ≠ g1) (ng0 : n ≠ g0) (ng1 : n ≠ g1) (lg0 : b ≠ g0) (lg1 : b ≠ g1) (hg0' : a ≠ g0) (hg1' : a ≠ g1)
    (hG0 : 0 ≤ (M g0).h ∧ (M g0).h ≤ 500000000) (hG1 : 0 ≤ (M g1).h ∧ (M g1).h ≤ 500000000) (hq : ∀ q, (M n).p = some q → S q ∧ a ≠ q ∧ n ≠ q ∧ ∃ s, (M q).l = some s ∧ (s ≠ n → S s ∧ s ≠ a)) : Calls Try.prog 114 #[.pointer (some ⟨t, 0, none⟩), .pointer (some ⟨n, 0, none⟩)] w fun e w' => e = .returned (.pointer (some ⟨a, 0, none⟩)) ∧ ∃ g k, Hid (((g = g0 ∧ k = g1) ∨ (g = g1 ∧ k = g0)) ∧ (M g).h ≤ (M k).h) ∧ Rep w' (adM (adM (replM M n a) n b g) a n k) S ∧ blk w' t #[nptr (replR M n a root), mv] 78 ∧ But (fun k => k = t ∨ S k) w w' := by
  have cS := fun q0 q1 q2 q3 w' (h : Below w.heap.size w w') => split_r a g0 g1 M S w' (hR.below h) sa s0 s1 hg0 hg1 gg q0 q1 q2 q3 ⟨hG0.1, by omega⟩ ⟨hG1.1, by omega⟩
  have cR := fun w' (h : Below w.heap.size w w') => replace_r t n a root mv M S w' (hR.below h) (blk_below h kt) tS sn sa (Ne.symm na) hq
  have cA := fun g k (hgk : Hid (((g = g0 ∧ k = g1) ∨ (g = g1 ∧ k = g0)) ∧ (M g).h ≤ (M k).h)) w' (h : Rep w' (replM M n a) S) => adopt_r n b g (replM M n a) S w' h sn sb (by rcases hgk.out.1 with ⟨rfl, _⟩ | ⟨rfl, _⟩ <;> assumption) nb (by rcases hgk.out.1 with ⟨rfl, _⟩ | ⟨rfl, _⟩ <;> assumption) (by rcases hgk.out.1 with ⟨rfl, _⟩ | ⟨rfl, _⟩ <;> assumption) (by rw [replM_h]; omega) (by rw [replM_h]; rcases hgk.out.1 with ⟨rfl, _⟩ | ⟨rfl, _⟩ <;> omega)
  have cB := fun g k (hgk : Hid (((g = g0 ∧ k = g1) ∨ (g = g1 ∧ k = g0)) ∧ (M g).h ≤ (M k).h)) w' (h : Rep w' (adM (replM M n a) n b g) S) => adopt_r a n k (adM (replM M n a) n b g) S w' h sa sn (by rcases hgk.out.1 with ⟨_, rfl⟩ | ⟨_, rfl⟩ <;> assumption) (Ne.symm na) (by rcases hgk.out.1 with ⟨_, rfl⟩ | ⟨_, rfl⟩ <;> assumption) (by rcases hgk.out.1 with ⟨_, rfl⟩ | ⟨_, rfl⟩ <;> assumption)
    (by simp only [adM, if_true, replM_h]; rcases hgk.out.1 with ⟨rfl, _⟩ | ⟨rfl, _⟩ <;> omega)
    (by rcases hgk.out.1 with ⟨rfl, rfl⟩ | ⟨rfl, rfl⟩ <;> rw [adM_other (by omega) (by omega) (by omega), replM_h] <;> omega)
  generalize hX1 : replM M n a = M1 at *
  generalize hX0 : replR M n a root = root1 at *
  clear hX1 hX0 hq
  clear hg0 hg1 hG0 hG1
  have kn := hR n sn
  have ka := hR a sa
  have kb := hR b sb
  obtain ⟨N, hN⟩ : ∃ N, M n = N := ⟨_, rfl⟩
  obtain ⟨A, hNA⟩ : ∃ A, M a = A := ⟨_, rfl⟩
  obtain ⟨B, hNB⟩ : ∃ B, M b = B := ⟨_, rfl⟩
  rw [hN] at kn hl hr
  rw [hNA] at ka hA hc hd
  rw [hNB] at kb hB hc hd
  clear hN hNA hNB
  obtain ⟨iN, ⟨x0N, y0N, x1N, y1N⟩, hN, pN, lN, rN⟩ := N
  obtain ⟨iA, ⟨x0A, y0A, x1A, y1A⟩, hA', pA, lA, rA⟩ := A
  obtain ⟨iB, ⟨x0B, y0B, x1B, y1B⟩, hB', pB, lB, rB⟩ := B
  dsimp only at hl hr hA hB hc hd
  subst hl hr
  simp only [ndc, nptr_some] at kn ka kb
  generalize nptr pN = PN at *
  generalize nptr pA = PA at *
  generalize nptr lA = LA at *
  generalize nptr rA = RA at *
  generalize nptr pB = PB at *
  generalize nptr lB = LB at *
  generalize nptr rB = RB at *
  obtain ⟨h1, h2⟩ := hA
  obtain ⟨h3, h4⟩ := hB
  have okn := blk_older kn
  have ckn_0 : _ = some _ := blk_cell kn 0
  have ckn_1 : _ = some _ := blk_cell kn 1
  have ckn_2 : _ = some _ := blk_cell kn 2
  have ckn_3 : _ = some _ := blk_cell kn 3
  have ckn_4 : _ = some _ := blk_cell kn 4
  have ckn_5 : _ = some _ := blk_cell kn 5
  have ckn_6 : _ = some _ := blk_cell kn 6
  have ckn_7 : _ = some _ := blk_cell kn 7
  have ckn_8 : _ = some _ := blk_cell kn 8
  have fkn_0 := blk_free kn 0
  have fkn_1 := blk_free kn 1
  have fkn_2 := blk_free kn 2
  have fkn_3 := blk_free kn 3
  have fkn_4 := blk_free kn 4
  have fkn_5 := blk_free kn 5
  have fkn_6 := blk_free kn 6
  have fkn_7 := blk_free kn 7
  have fkn_8 := blk_free kn 8
  have oka := blk_older ka
  have cka_0 : _ = some _ := blk_cell ka 0
  have cka_1 : _ = some _ := blk_cell ka 1
  have cka_2 : _ = some _ := blk_cell ka 2
  have cka_3 : _ = some _ := blk_cell ka 3
  have cka_4 : _ = some _ := blk_cell ka 4
  have cka_5 : _ = some _ := blk_cell ka 5
  have cka_6 : _ = some _ := blk_cell ka 6
  have cka_7 : _ = some _ := blk_cell ka 7
  have cka_8 : _ = some _ := blk_cell ka 8
  have fka_0 := blk_free ka 0
  have fka_1 := blk_free ka 1
  have fka_2 := blk_free ka 2
  have fka_3 := blk_free ka 3
  have fka_4 := blk_free ka 4
  have fka_5 := blk_free ka 5
  have fka_6 := blk_free ka 6
  have fka_7 := blk_free ka 7
  have fka_8 := blk_free ka 8
  have okb := blk_older kb
  have ckb_0 : _ = some _ := blk_cell kb 0
  have ckb_1 : _ = some _ := blk_cell kb 1
  have ckb_2 : _ = some _ := blk_cell kb 2
  have ckb_3 : _ = some _ := blk_cell kb 3
  have ckb_4 : _ = some _ := blk_cell kb 4
  have ckb_5 : _ = some _ := blk_cell kb 5
  have ckb_6 : _ = some _ := blk_cell kb 6
  have ckb_7 : _ = some _ := blk_cell kb 7
  have ckb_8 : _ = some _ := blk_cell kb 8
  have fkb_0 := blk_free kb 0
  have fkb_1 := blk_free kb 1
  have fkb_2 := blk_free kb 2
  have fkb_3 := blk_free kb 3
  have fkb_4 := blk_free kb 4
  have fkb_5 := blk_free kb 5
  have fkb_6 := blk_free kb 6
  have fkb_7 := blk_free kb 7
  have fkb_8 := blk_free kb 8
  go_enter Try.func114, Try.ntmps114
  go_wp2_with fail
  refine wp_region_gw (by kernel_rfl) (by kernel_rfl) ?_
  repeat (go_big_quiet_step (fail))
  refine wpQuiet_nil ?_
  intro w1 hw1
  obtain ⟨q, rfl⟩ := hw1
  go_wp2_with fail
  refine wp_region_gw (by kernel_rfl) (by kernel_rfl) ?_
  repeat (go_big_quiet_step (fail))
  refine wpQuiet_nil ?_
  intro w1 hw1
  obtain ⟨q, rfl⟩ := hw1
  go_wp2_with fail
  refine wp_region_gw (by kernel_rfl) (by kernel_rfl) ?_
  repeat (go_big_quiet_step (fail))
  refine wpQuiet_nil ?_
  intro w1 hw1
  obtain ⟨q, rfl⟩ := hw1
  go_wp2_with (first | (go_at_call 122; with_reducible_and_instances refine Calls.mono (cS _ _ _ _ _ bBel) ?_; rintro e w1 ⟨⟨g, k, hgk, rfl⟩, hb1⟩; obtain ⟨q, rfl⟩ := gw_of_below hb1) | (go_at_call 88; with_reducible_and_instances refine Calls.mono (cR _ bBel) ?_; rintro e w2 ⟨rfl, hR2, kt2, hb2⟩) | (go_at_call 89; with_reducible_and_instances refine Calls.mono (cA g k hgk _ hR2) ?_; rintro e w3 ⟨rfl, hR3, hb3⟩) | (go_at_call 89; with_reducible_and_instances refine Calls.mono (cB g k hgk _ hR3) ?_; rintro e w4 ⟨rfl, hR4, hb4⟩))
  go_ret
  refine ⟨rfl, g, k, hgk, hR4, hb4.blk (hb3.blk kt2 tS) tS, ?_⟩
  exact (((((But.refl _ _).below bBel).trans hb2 fun _ _ h => h)).trans hb3 (fun _ _ h => .inr h)).trans hb4 (fun _ _ h => .inr h)

theorem LayC.par {M : Nat → Nd} {S : Nat → Prop} {C : List Frm} {o n : Nat} (h : LayC M C o) (hS : ∀ c ∈ cbs C, S c) (ho : o ∉ cbs C) (hn : n ∉ cbs C) : ∀ q, (M o).p = some q → S q ∧ n ≠ q ∧ o ≠ q ∧ ∃ s, (M q).l = some s ∧ (s ≠ o → S s ∧ s ≠ n) := by
  intro q hq
  cases C with
  | nil => rw [show (M o).p = none from h] at hq; cases hq
  | cons f C =>
    obtain ⟨h1, h2, h3, h4, h5, h6⟩ := h
    rw [h1] at hq
    cases hq
    simp only [cbs, List.mem_cons, List.mem_append, not_or] at ho hn hS
    refine ⟨hS _ (.inl rfl), hn.1, ho.1, _, h3, ?_⟩
    cases f.sd
    · exact fun e => absurd rfl e
    · exact fun _ => ⟨hS _ (.inr (.inl f.s.b_mem)), fun e => hn.2.1 (e ▸ f.s.b_mem)⟩

theorem Tr.bs_node {b : Nat} {l r : Tr} {c : Nat} : c ∈ (Tr.node b l r).bs ↔ c = b ∨ c ∈ l.bs ∨ c ∈ r.bs := by simp [Tr.bs]

theorem lay_kid {M : Nat → Nd} {hb : Nat} {a b : Tr} (h : Lay M (.node hb a b)) : (M hb).l = some a.b ∧ (M hb).r = some b.b ∧ Lay M a ∧ Lay M b := ⟨h.2.2.1, h.2.2.2.1, h.2.2.2.2.2.2.1, h.2.2.2.2.2.2.2⟩

/-- What balance leaves behind. -/
def BalPost (t : Nat) (mv : Value) (M : Nat → Nd) (S : Nat → Prop) (w : World) (C : List Frm) (n : Nat) (L R : Tr) (e : Ending) (w' : World) : Prop :=
  ∃ (u : Tr) (M' : Nat → Nd) (root' : Option Nat), e = .returned (.pointer (some ⟨u.b, 0, none⟩)) ∧ St M' root' C u ∧ Rep w' M' S ∧ blk w' t #[nptr root', mv] 78 ∧ But (fun k => k = t ∨ S k) w w' ∧ u.bal ∧
    ((L.ht ≤ R.ht + 1 ∧ R.ht ≤ L.ht + 1 ∧ u.ht = 1 + max L.ht R.ht) ∨ ((L.ht = R.ht + 2 ∨ R.ht = L.ht + 2) ∧ max L.ht R.ht ≤ u.ht ∧ u.ht ≤ 1 + max L.ht R.ht)) ∧ u.lv.Perm (L.lv ++ R.lv) ∧ u.bs.Perm (n :: (L.bs ++ R.bs)) ∧ (∀ c, c ∉ cbs C → c ∉ n :: (L.bs ++ R.bs) → M' c = M c)

theorem balance0 (t n : Nat) (root : Option Nat) (mv : Value) (M : Nat → Nd) (S : Nat → Prop) (w : World) (C : List Frm) (lo hi : Tr) (hR : Rep w M S) (kt : blk w t #[nptr root, mv] 78) (tS : ¬ S t) (hK : Kids M root C n lo hi) (hl : (M n).l = some lo.b) (hr : (M n).r = some hi.b)
    (hS : ∀ c ∈ cbs C ++ (n :: (lo.bs ++ hi.bs)), S c) (bL : lo.bal) (bR : hi.bal) (hc : lo.ht ≤ hi.ht) (d2 : hi.ht ≤ lo.ht + 2) (m2 : hi.ht ≤ 100000000) :
    Calls Try.prog 114 #[.pointer (some ⟨t, 0, none⟩), .pointer (some ⟨n, 0, none⟩)] w (BalPost t mv M S w C n lo hi) := by
  have hd := hK.nd
  simp only [List.nodup_append, List.nodup_cons, List.mem_append, List.mem_cons, not_or] at hd
  obtain ⟨d3, ⟨⟨e1, e2⟩, e3, e4, e5⟩, e6⟩ := hd
  have sn : S n := hS n (by simp)
  have slo : S lo.b := hS _ (by simp [lo.b_mem])
  have shi : S hi.b := hS _ (by simp [hi.b_mem])
  have nlo : n ≠ lo.b := fun e => e1 (e ▸ lo.b_mem)
  have nhi : n ≠ hi.b := fun e => e2 (e ▸ hi.b_mem)
  have lohi : lo.b ≠ hi.b := e5 _ lo.b_mem _ hi.b_mem
  have hlo := hK.la.ht
  have hhi := hK.lb.ht
  have hnC : n ∉ cbs C := fun e => e6 n e n (.inl rfl) rfl
  have hhC : hi.b ∉ cbs C := fun e => e6 _ e _ (.inr (.inr hi.b_mem)) rfl
  by_cases hdd : hi.ht ≤ lo.ht + 1
  · refine (flat0 t n lo.b hi.b root mv M S w hR kt tS sn slo shi hl hr nlo nhi lohi (by omega) (by omega) (by omega) (by omega)).mono ?_
    rintro e w' ⟨rfl, h1, h2, h3⟩
    refine ⟨.node n lo hi, _, root, rfl, hK.adopt, h1, h2, h3, ⟨bL, bR, by omega, by omega⟩, .inl ⟨by omega, by omega, by simp only [Tr.ht] <;> omega⟩, ?_, ?_, fun c _ hcc => ?_⟩
    · exact List.Perm.refl _
    · exact List.Perm.refl _
    · simp only [List.mem_cons, List.mem_append, not_or] at hcc
      exact adM_other hcc.1 (by rintro rfl; exact hcc.2.1 lo.b_mem) (by rintro rfl; exact hcc.2.2 hi.b_mem)
  · cases hi with
    | leaf b i x => have := lo.ht_pos; simp only [Tr.ht] at hdd; omega
    | node hb ga gb =>
      obtain ⟨f1, f2, f3, f4⟩ := lay_kid hK.lb
      have hga := f3.ht
      have hgb := f4.ht
      simp only [Tr.bs, List.nodup_cons, List.mem_append, not_or, List.nodup_append, List.mem_cons] at e2 e4 e5 e6
      simp only [Tr.b] at hl hr nhi lohi hhC shi hhi
      have hh2 : (Tr.node hb ga gb).ht = 1 + max ga.ht gb.ht := rfl
      refine (lift0 t n lo.b hb root mv M S w hR kt tS sn slo shi hl hr nlo nhi lohi (by omega) (by omega) (by omega) (by omega) ga.b gb.b (hS _ (by simp [Tr.bs, ga.b_mem])) (hS _ (by simp [Tr.bs, gb.b_mem])) f1 f2 (e4.2.2.2 _ ga.b_mem _ gb.b_mem)
        (fun e => e2.2.1 (e ▸ ga.b_mem)) (fun e => e2.2.2 (e ▸ gb.b_mem)) (fun e => e5 _ lo.b_mem _ (.inr (.inl ga.b_mem)) e) (fun e => e5 _ lo.b_mem _ (.inr (.inr gb.b_mem)) e) (fun e => e4.1.1 (e ▸ ga.b_mem)) (fun e => e4.1.2 (e ▸ gb.b_mem)) (by omega) (by omega)
        (hK.way.par (fun c hc => hS c (by simp [hc])) hnC hhC)).mono ?_
      rintro e w' ⟨rfl, g, k, hgk, h1, h2, h3⟩
      have hoff : ∀ g k : Tr, (∀ c ∈ g.bs, c ∈ ga.bs ∨ c ∈ gb.bs) → (∀ c ∈ k.bs, c ∈ ga.bs ∨ c ∈ gb.bs) → ∀ c, c ∉ cbs C → c ∉ n :: (lo.bs ++ (Tr.node hb ga gb).bs) → adM (adM (replM M n hb) n lo.b g.b) hb n k.b c = M c := by
        intro g k hg hk c hC hcc
        simp only [Tr.bs, List.mem_cons, List.mem_append, not_or] at hcc
        have o1 : c ≠ n := hcc.1
        have o2 : c ≠ lo.b := by rintro rfl; have := lo.b_mem; simp_all
        have o3 : c ≠ hb := by rintro rfl; simp_all
        have o4 : c ≠ g.b := by rintro rfl; have := hg _ g.b_mem; simp_all
        have o5 : c ≠ k.b := by rintro rfl; have := hk _ k.b_mem; simp_all
        rw [adM_other o3 o1 o5, adM_other o1 o2 o4]
        exact replM_other o3 (hK.way.off hC)
      obtain ⟨hgk1, hgk2⟩ := hgk.out
      rcases hgk1 with ⟨rfl, rfl⟩ | ⟨rfl, rfl⟩
      · obtain ⟨b1, b2, b3⟩ := bal_lift (n := n) (lo := lo) (hi := .node hb ga gb) (.inl rfl) bL bR (by omega) (by omega)
        refine ⟨.node hb (.node n lo ga) gb, _, _, rfl, hK.lift (.inl rfl), h1, h2, h3, b1, .inr ⟨by omega, by omega, by omega⟩, ?_, ?_, hoff ga gb (fun c h => .inl h) (fun c h => .inr h)⟩
        · exact List.perm_iff_count.2 fun x => by simp only [Tr.bs, Tr.lv, List.count_cons, List.count_append]; omega
        · exact List.perm_iff_count.2 fun x => by simp only [Tr.bs, Tr.lv, List.count_cons, List.count_append]; omega
      · obtain ⟨b1, b2, b3⟩ := bal_lift (n := n) (lo := lo) (hi := .node hb ga gb) (.inr rfl) bL bR (by omega) (by omega)
        refine ⟨.node hb (.node n lo gb) ga, _, _, rfl, hK.lift (.inr rfl), h1, h2, h3, b1, .inr ⟨by omega, by omega, by omega⟩, ?_, ?_, hoff gb ga (fun c h => .inr h) (fun c h => .inl h)⟩
        · exact List.perm_iff_count.2 fun x => by simp only [Tr.bs, Tr.lv, List.count_cons, List.count_append]; omega
        · exact List.perm_iff_count.2 fun x => by simp only [Tr.bs, Tr.lv, List.count_cons, List.count_append]; omega

theorem balance1 (t n : Nat) (root : Option Nat) (mv : Value) (M : Nat → Nd) (S : Nat → Prop) (w : World) (C : List Frm) (lo hi : Tr) (hR : Rep w M S) (kt : blk w t #[nptr root, mv] 78) (tS : ¬ S t) (hK : Kids M root C n lo hi) (hl : (M n).l = some hi.b) (hr : (M n).r = some lo.b)
    (hS : ∀ c ∈ cbs C ++ (n :: (lo.bs ++ hi.bs)), S c) (bL : lo.bal) (bR : hi.bal) (hc : lo.ht < hi.ht) (d2 : hi.ht ≤ lo.ht + 2) (m2 : hi.ht ≤ 100000000) :
    Calls Try.prog 114 #[.pointer (some ⟨t, 0, none⟩), .pointer (some ⟨n, 0, none⟩)] w (BalPost t mv M S w C n hi lo) := by
  have hd := hK.nd
  simp only [List.nodup_append, List.nodup_cons, List.mem_append, List.mem_cons, not_or] at hd
  obtain ⟨d3, ⟨⟨e1, e2⟩, e3, e4, e5⟩, e6⟩ := hd
  have sn : S n := hS n (by simp)
  have slo : S lo.b := hS _ (by simp [lo.b_mem])
  have shi : S hi.b := hS _ (by simp [hi.b_mem])
  have nlo : n ≠ lo.b := fun e => e1 (e ▸ lo.b_mem)
  have nhi : n ≠ hi.b := fun e => e2 (e ▸ hi.b_mem)
  have lohi : lo.b ≠ hi.b := e5 _ lo.b_mem _ hi.b_mem
  have hlo := hK.la.ht
  have hhi := hK.lb.ht
  have hnC : n ∉ cbs C := fun e => e6 n e n (.inl rfl) rfl
  have hhC : hi.b ∉ cbs C := fun e => e6 _ e _ (.inr (.inr hi.b_mem)) rfl
  by_cases hdd : hi.ht ≤ lo.ht + 1
  · refine (flat1 t n hi.b lo.b root mv M S w hR kt tS sn shi slo hl hr nhi nlo (Ne.symm lohi) (by omega) (by omega) (by omega) (by omega)).mono ?_
    rintro e w' ⟨rfl, h1, h2, h3⟩
    refine ⟨.node n lo hi, _, root, rfl, hK.adopt, h1, h2, h3, ⟨bL, bR, by omega, by omega⟩, .inl ⟨by omega, by omega, by simp only [Tr.ht] <;> omega⟩, ?_, ?_, fun c _ hcc => ?_⟩
    · exact List.perm_append_comm
    · exact List.Perm.cons _ List.perm_append_comm
    · simp only [List.mem_cons, List.mem_append, not_or] at hcc
      exact adM_other hcc.1 (by rintro rfl; exact hcc.2.2 lo.b_mem) (by rintro rfl; exact hcc.2.1 hi.b_mem)
  · cases hi with
    | leaf b i x => have := lo.ht_pos; simp only [Tr.ht] at hdd; omega
    | node hb ga gb =>
      obtain ⟨f1, f2, f3, f4⟩ := lay_kid hK.lb
      have hga := f3.ht
      have hgb := f4.ht
      simp only [Tr.bs, List.nodup_cons, List.mem_append, not_or, List.nodup_append, List.mem_cons] at e2 e4 e5 e6
      simp only [Tr.b] at hl hr nhi lohi hhC shi hhi
      have hh2 : (Tr.node hb ga gb).ht = 1 + max ga.ht gb.ht := rfl
      refine (lift1 t n hb lo.b root mv M S w hR kt tS sn shi slo hl hr nhi nlo (Ne.symm lohi) (by omega) (by omega) (by omega) (by omega) ga.b gb.b (hS _ (by simp [Tr.bs, ga.b_mem])) (hS _ (by simp [Tr.bs, gb.b_mem])) f1 f2 (e4.2.2.2 _ ga.b_mem _ gb.b_mem)
        (fun e => e2.2.1 (e ▸ ga.b_mem)) (fun e => e2.2.2 (e ▸ gb.b_mem)) (fun e => e5 _ lo.b_mem _ (.inr (.inl ga.b_mem)) e) (fun e => e5 _ lo.b_mem _ (.inr (.inr gb.b_mem)) e) (fun e => e4.1.1 (e ▸ ga.b_mem)) (fun e => e4.1.2 (e ▸ gb.b_mem)) (by omega) (by omega)
        (hK.way.par (fun c hc => hS c (by simp [hc])) hnC hhC)).mono ?_
      rintro e w' ⟨rfl, g, k, hgk, h1, h2, h3⟩
      have hoff : ∀ g k : Tr, (∀ c ∈ g.bs, c ∈ ga.bs ∨ c ∈ gb.bs) → (∀ c ∈ k.bs, c ∈ ga.bs ∨ c ∈ gb.bs) → ∀ c, c ∉ cbs C → c ∉ n :: ((Tr.node hb ga gb).bs ++ lo.bs) → adM (adM (replM M n hb) n lo.b g.b) hb n k.b c = M c := by
        intro g k hg hk c hC hcc
        simp only [Tr.bs, List.mem_cons, List.mem_append, not_or] at hcc
        have o1 : c ≠ n := hcc.1
        have o2 : c ≠ lo.b := by rintro rfl; have := lo.b_mem; simp_all
        have o3 : c ≠ hb := by rintro rfl; simp_all
        have o4 : c ≠ g.b := by rintro rfl; have := hg _ g.b_mem; simp_all
        have o5 : c ≠ k.b := by rintro rfl; have := hk _ k.b_mem; simp_all
        rw [adM_other o3 o1 o5, adM_other o1 o2 o4]
        exact replM_other o3 (hK.way.off hC)
      obtain ⟨hgk1, hgk2⟩ := hgk.out
      rcases hgk1 with ⟨rfl, rfl⟩ | ⟨rfl, rfl⟩
      · obtain ⟨b1, b2, b3⟩ := bal_lift (n := n) (lo := lo) (hi := .node hb ga gb) (.inl rfl) bL bR (by omega) (by omega)
        refine ⟨.node hb (.node n lo ga) gb, _, _, rfl, hK.lift (.inl rfl), h1, h2, h3, b1, .inr ⟨by omega, by omega, by omega⟩, ?_, ?_, hoff ga gb (fun c h => .inl h) (fun c h => .inr h)⟩
        · exact List.perm_iff_count.2 fun x => by simp only [Tr.bs, Tr.lv, List.count_cons, List.count_append]; omega
        · exact List.perm_iff_count.2 fun x => by simp only [Tr.bs, Tr.lv, List.count_cons, List.count_append]; omega
      · obtain ⟨b1, b2, b3⟩ := bal_lift (n := n) (lo := lo) (hi := .node hb ga gb) (.inr rfl) bL bR (by omega) (by omega)
        refine ⟨.node hb (.node n lo gb) ga, _, _, rfl, hK.lift (.inr rfl), h1, h2, h3, b1, .inr ⟨by omega, by omega, by omega⟩, ?_, ?_, hoff gb ga (fun c h => .inr h) (fun c h => .inl h)⟩
        · exact List.perm_iff_count.2 fun x => by simp only [Tr.bs, Tr.lv, List.count_cons, List.count_append]; omega
        · exact List.perm_iff_count.2 fun x => by simp only [Tr.bs, Tr.lv, List.count_cons, List.count_append]; omega

theorem balance_t (t n : Nat) (root : Option Nat) (mv : Value) (M : Nat → Nd) (S : Nat → Prop) (w : World) (C : List Frm) (L R : Tr) (hR : Rep w M S) (kt : blk w t #[nptr root, mv] 78) (tS : ¬ S t) (hK : Kids M root C n L R) (hl : (M n).l = some L.b) (hr : (M n).r = some R.b)
    (hS : ∀ c ∈ cbs C ++ (n :: (L.bs ++ R.bs)), S c) (bL : L.bal) (bR : R.bal) (d1 : L.ht ≤ R.ht + 2) (d2 : R.ht ≤ L.ht + 2) (m1 : L.ht ≤ 100000000) (m2 : R.ht ≤ 100000000) :
    Calls Try.prog 114 #[.pointer (some ⟨t, 0, none⟩), .pointer (some ⟨n, 0, none⟩)] w (BalPost t mv M S w C n L R) := by
  by_cases hc : L.ht ≤ R.ht
  · exact balance0 t n root mv M S w C L R hR kt tS hK hl hr hS bL bR hc d2 m2
  · exact balance1 t n root mv M S w C R L hR kt tS hK.swap hl hr (fun c h => hS c (by simp only [List.mem_append, List.mem_cons] at h ⊢; rcases h with h | h | h | h <;> simp [h])) bR bL (by omega) d1 m1

/-- What mend (attach, detach) leaves behind: the tree T in the place of leaves V in nodes B. -/
def TreePost (t : Nat) (mv : Value) (M : Nat → Nd) (S : Nat → Prop) (w : World) (V : List (Nat × Int × Bx)) (B : List Nat) (w' : World) : Prop :=
  ∃ (T : Tr) (M' : Nat → Nd), Rep w' M' S ∧ blk w' t #[nptr (some T.b), mv] 78 ∧ But (fun k => k = t ∨ S k) w w' ∧ Lay M' T ∧ (M' T.b).p = none ∧ T.bal ∧ T.lv.Perm V ∧ T.bs.Perm B ∧ T.bs.Nodup ∧ (∀ c, c ∉ B → M' c = M c)

theorem clv_len : ∀ C : List Frm, ∀ f ∈ C, f.s.ht ≤ (clv C).length
  | [], f, h => by simp at h
  | g :: C, f, h => by
    simp only [clv, List.length_append]
    rcases List.mem_cons.1 h with rfl | h
    · have := f.s.ht_lv; omega
    · have := clv_len C f h; omega

set_option maxRecDepth 100000 in
set_option maxHeartbeats 4000000 in
theorem mend_b (t : Nat) (root : Option Nat) (mv : Value) (M : Nat → Nd) (S : Nat → Prop) (w : World) (C : List Frm) (u : Tr) (H0 : Nat) (P : Value) (hR : Rep w M S) (kt : blk w t #[nptr root, mv] 78) (tS : ¬ S t) (hSt : St M root C u) (hS : ∀ c ∈ cbs C ++ u.bs, S c) (hb : u.bal) (hC : cbal C H0) (h1 : u.ht ≤ H0 + 1) (h2 : H0 ≤ u.ht + 1)
    (hN : (clv C ++ u.lv).length ≤ 1000000) (hP : nptr (M u.b).p = P) : Calls Try.prog 90 #[.pointer (some ⟨t, 0, none⟩), P] w fun e w' => e = .returned (.tuple #[]) ∧ TreePost t mv M S w (clv C ++ u.lv) (cbs C ++ u.bs) w' := by
  go_enter Try.func90, Try.ntmps90
  go_wp2_with fail
  go_loopg [1] C.length (fun k n wr => ∃ C' u' H' M' root', C'.length = k ∧ n = nptr (M' u'.b).p ∧ Hid (Rep wr M' S ∧ blk wr t #[nptr root', mv] 78 ∧ St M' root' C' u' ∧ u'.bal ∧ cbal C' H' ∧ u'.ht ≤ H' + 1 ∧ H' ≤ u'.ht + 1 ∧ (clv C' ++ u'.lv).Perm (clv C ++ u.lv) ∧ (cbs C' ++ u'.bs).Perm (cbs C ++ u.bs) ∧ (∀ c, c ∉ cbs C ++ u.bs → M' c = M c)) ∧ But (fun k => k = t ∨ S k) w wr)
  case atStart => exact ⟨C, u, H0, M, root, rfl, hP.symm, ⟨hR, kt, hSt, hb, hC, h1, h2, List.Perm.refl _, List.Perm.refl _, fun _ _ => rfl⟩, But.refl _ _⟩
  case round =>
    obtain ⟨C', u', H', M', root', hk, rfl, hA, hB⟩ := hrel
    obtain ⟨a1, a2, a3, a4, a5, a6, a7, a8, a9, a10⟩ := hA.out
    clear hA hSt hR kt hb hC h1 h2 hP
    cases C' with
    | nil =>
      have hp : (M' u'.b).p = none := a3.way
      rw [hp, nptr_none]
      clear hk
      have A : Hid (TreePost t mv M S w (clv C ++ u.lv) (cbs C ++ u.bs) wr) := ⟨u', M', a1, by have := a3.root; simp only [ctop] at this; rw [← this]; exact a2, hB, a3.lay, hp, a4, by simpa [clv] using a8, by simpa [cbs] using a9, by have := a3.nd; simpa [cbs] using this, a10⟩
      clear a1 a2 a3 a4 a5 a6 a7 a8 a9 a10 hp hB hS hN
      go_wp2_with fail
      go_end0
      exact ⟨rfl, A.out⟩
    | cons f C' =>
      have hp : (M' u'.b).p = some f.b := a3.way.1
      obtain ⟨b1, b2, b3⟩ := a3.kids
      obtain ⟨c1, c2, c3, c4⟩ := a5
      have hlen := a8.length_eq
      have hSS : ∀ c ∈ cbs (f :: C') ++ u'.bs, S c := fun c h => hS c (a9.mem_iff.1 h)
      have hu := u'.ht_lv
      have hs := f.s.ht_lv
      simp only [clv, List.length_append] at hlen hN
      have cB := balance_t t f.b root' mv M' S wr C' _ _ a1 a2 tS b1 b2 b3
        (fun c h => hSS c (by
          simp only [cbs, List.cons_append, List.append_assoc, List.mem_cons, List.mem_append] at h ⊢
          cases hsd : f.sd <;> simp only [hsd, Bool.false_eq_true, if_false, if_true] at h <;> rcases h with h | h | h | h <;> simp [h]))
        (by cases f.sd <;> simp [a4, c1]) (by cases f.sd <;> simp [a4, c1]) (by cases f.sd <;> simp <;> omega) (by cases f.sd <;> simp <;> omega) (by cases f.sd <;> simp <;> omega) (by cases f.sd <;> simp <;> omega)
      rw [hp, nptr_some]
      obtain ⟨fb, hfb⟩ : ∃ fb, Hid (f.b = fb) := ⟨_, rfl⟩
      rw [hfb.out] at cB ⊢
      have A : Hid (u'.bal ∧ cbal C' (1 + max H' f.s.ht) ∧ f.s.ht ≤ H' + 1 ∧ H' ≤ f.s.ht + 1 ∧ u'.ht ≤ H' + 1 ∧ H' ≤ u'.ht + 1 ∧ (clv (f :: C') ++ u'.lv).Perm (clv C ++ u.lv) ∧ (cbs (f :: C') ++ u'.bs).Perm (cbs C ++ u.bs) ∧ (∀ c, c ∉ cbs C ++ u.bs → M' c = M c) ∧ C'.length < gk ∧ (∀ c ∈ cbs (f :: C') ++ u'.bs, S c)) := ⟨a4, c4, c2, c3, a6, a7, a8, a9, a10, by simp at hk; omega, hSS⟩
      clear a1 a2 a3 a4 a6 a7 a8 a9 a10 hk c1 c2 c3 c4 hlen hu hs hSS b1 b2 b3 hS hN hp
      have cB2 : Calls Try.prog 114 #[.pointer (some ⟨t, 0, none⟩), .pointer (some ⟨fb, 0, none⟩)] wr fun e w2 => ∃ ub P2, e = .returned (.pointer (some ⟨ub, 0, none⟩)) ∧ w2.cell? ⟨ub, 6, none⟩ = some P2 ∧
          Hid (∃ u2 M2 root2, u2.b = ub ∧ nptr (M2 u2.b).p = P2 ∧ St M2 root2 C' u2 ∧ Rep w2 M2 S ∧ blk w2 t #[nptr root2, mv] 78 ∧ But (fun k => k = t ∨ S k) wr w2 ∧ u2.bal ∧ (((if f.sd = true then f.s else u').ht ≤ (if f.sd = true then u' else f.s).ht + 1 ∧ (if f.sd = true then u' else f.s).ht ≤ (if f.sd = true then f.s else u').ht + 1 ∧ u2.ht = 1 + max (if f.sd = true then f.s else u').ht (if f.sd = true then u' else f.s).ht) ∨ (((if f.sd = true then f.s else u').ht = (if f.sd = true then u' else f.s).ht + 2 ∨ (if f.sd = true then u' else f.s).ht = (if f.sd = true then f.s else u').ht + 2) ∧ max (if f.sd = true then f.s else u').ht (if f.sd = true then u' else f.s).ht ≤ u2.ht ∧ u2.ht ≤ 1 + max (if f.sd = true then f.s else u').ht (if f.sd = true then u' else f.s).ht)) ∧
            u2.lv.Perm ((if f.sd = true then f.s else u').lv ++ (if f.sd = true then u' else f.s).lv) ∧ u2.bs.Perm (fb :: ((if f.sd = true then f.s else u').bs ++ (if f.sd = true then u' else f.s).bs)) ∧ (∀ c, c ∉ cbs C' → c ∉ fb :: ((if f.sd = true then f.s else u').bs ++ (if f.sd = true then u' else f.s).bs) → M2 c = M' c)) := by
        refine cB.mono ?_
        rintro e w2 ⟨u2, M2, root2, rfl, e1, e2, e3, e4, e5, e6, e7, e8, e9⟩
        have hS2 : S u2.b := A.out.2.2.2.2.2.2.2.2.2.2 _ (by
          have := e8.mem_iff.1 u2.b_mem
          simp only [cbs, List.cons_append, List.append_assoc, List.mem_cons, List.mem_append] at this ⊢
          rw [← hfb.out] at this
          cases hsd : f.sd <;> simp only [hsd, Bool.false_eq_true, if_false, if_true] at this <;> rcases this with h | h | h <;> simp [h])
        exact ⟨u2.b, _, rfl, blk_cell (e2 _ hS2) 6, u2, M2, root2, rfl, rfl, e1, e2, e3, e4, e5, e6, e7, e8, e9⟩
      clear cB
      go_wp2_with (go_at_call 114; with_reducible_and_instances refine Calls.mono cB2 ?_; rintro e w2 ⟨ub, P2, rfl, cz, D⟩)
      obtain ⟨u2, M2, root2, hub, hP2, e1, e2, e3, e4, e5, e6, e7, e8, e9⟩ := D.out
      obtain ⟨a4, c4, c2, c3, a6, a7, a8, a9, a10, a11, a12⟩ := A.out
      go_roundg C'.length
      case measure => exact a11
      case rel =>
        have hbp : u2.bs.Perm (f.b :: (u'.bs ++ f.s.bs)) := by
          rw [hfb.out]; refine e8.trans ?_
          cases f.sd <;> simp only [Bool.false_eq_true, if_false, if_true]
          · exact List.Perm.refl _
          · exact List.Perm.cons _ List.perm_append_comm
        have hlp : u2.lv.Perm (u'.lv ++ f.s.lv) := by
          refine e7.trans ?_
          cases f.sd <;> simp only [Bool.false_eq_true, if_false, if_true]
          · exact List.Perm.refl _
          · exact List.perm_append_comm
        have hhh : u2.ht ≤ (1 + max H' f.s.ht) + 1 ∧ 1 + max H' f.s.ht ≤ u2.ht + 1 := by
          cases hsd : f.sd <;> simp only [hsd, Bool.false_eq_true, if_false, if_true] at e6 <;> omega
        refine ⟨C', u2, 1 + max H' f.s.ht, M2, root2, rfl, hP2.symm, ⟨e2, e3, e1, e5, c4, hhh.1, hhh.2, ?_, ?_, ?_⟩, hB.trans e4 fun _ _ h => h⟩
        · refine List.Perm.trans ?_ a8
          refine (hlp.append_left _).trans (List.perm_iff_count.2 fun x => ?_)
          simp only [clv, List.count_append]; omega
        · refine List.Perm.trans ?_ a9
          refine (hbp.append_left _).trans (List.perm_iff_count.2 fun x => ?_)
          simp only [cbs, List.count_append, List.count_cons]; omega
        · intro c hc
          rw [← a10 c hc]
          have hc2 : c ∉ cbs (f :: C') ++ u'.bs := fun h => hc (a9.mem_iff.1 h)
          simp only [cbs, List.cons_append, List.append_assoc, List.mem_cons, List.mem_append, not_or] at hc2
          refine e9 c hc2.2.2.1 ?_
          rw [← hfb.out]
          simp only [List.mem_cons, List.mem_append, not_or]
          cases f.sd <;> simp only [Bool.false_eq_true, if_false, if_true] <;> simp [hc2]

end Go.Proofs.Ytfhhkabdeajieaa
