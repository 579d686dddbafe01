/- Chapter 20: contracts of what only reads nodes: isLeaf, growth, closerChild, closestLeaf, split. -/
import Derived.Test.YtfhhkabdeajieaaBvM
import Derived.Deep.LoopGhost
import Derived.Deep.DeepCutAuto
set_option linter.unusedVariables false
namespace Go.Proofs.Ytfhhkabdeajieaa
open Go.RowKit Fx

set_option maxRecDepth 100000 in
set_option maxHeartbeats 4000000 in
theorem isleaf_b (n : Nat) (N : Nd) (w : World) (kn : blk w n (ndc N) 89) (B : Bool) (hB : decide (N.h = 1) = B) : Calls Try.prog 111 #[.pointer (some ⟨n, 0, none⟩)] w fun e w' => e = .returned (.bool B) ∧ Below w.heap.size w w' := by
  obtain ⟨iN, ⟨x0N, y0N, x1N, y1N⟩, hN, pN, lN, rN⟩ := N
  simp only [ndc] at kn
  dsimp only at hB
  generalize nptr pN = PN at *
  generalize nptr lN = LN at *
  generalize nptr rN = RN at *
  have okn := blk_older kn
  have ckn_0 : _ = some _ := blk_cell kn 0
  have ckn_1 : _ = some _ := blk_cell kn 1
  have ckn_2 : _ = some _ := blk_cell kn 2
  have ckn_3 : _ = some _ := blk_cell kn 3
  have ckn_4 : _ = some _ := blk_cell kn 4
  have ckn_5 : _ = some _ := blk_cell kn 5
  have ckn_6 : _ = some _ := blk_cell kn 6
  have ckn_7 : _ = some _ := blk_cell kn 7
  have ckn_8 : _ = some _ := blk_cell kn 8
  have fkn_0 := blk_free kn 0
  have fkn_1 := blk_free kn 1
  have fkn_2 := blk_free kn 2
  have fkn_3 := blk_free kn 3
  have fkn_4 := blk_free kn 4
  have fkn_5 := blk_free kn 5
  have fkn_6 := blk_free kn 6
  have fkn_7 := blk_free kn 7
  have fkn_8 := blk_free kn 8
  subst hB
  go_enter Try.func111, Try.ntmps111
  go_wp2_with fail
  all_goals (go_ret; refine ⟨?_, bBel⟩; first | rfl | (simp; done) | (simp; omega) | (simp; rw [Bool.eq_iff_iff]; first | (simp; done) | (simp; omega)))

/-- By how much a box's half perimeter grows. -/
def grw (x b : Bx) : Int := wrap64 (hp4 (Bx.uni x b).x0 (Bx.uni x b).y0 (Bx.uni x b).x1 (Bx.uni x b).y1 - hp4 x.x0 x.y0 x.x1 x.y1)

set_option maxRecDepth 100000 in
set_option maxHeartbeats 4000000 in
theorem growth_b (n : Nat) (N : Nd) (w : World) (kn : blk w n (ndc N) 89) (q0 q1 q2 q3 : Int) : Calls Try.prog 120 #[.pointer (some ⟨n, 0, none⟩), .agg #[.int .i64 q0, .int .i64 q1, .int .i64 q2, .int .i64 q3]] w fun e w' => e = .returned (.int .i64 (grw N.x ⟨q0, q1, q2, q3⟩)) ∧ Below w.heap.size w w' := by
  obtain ⟨iN, ⟨x0N, y0N, x1N, y1N⟩, hN, pN, lN, rN⟩ := N
  simp only [ndc] at kn

  generalize nptr pN = PN at *
  generalize nptr lN = LN at *
  generalize nptr rN = RN at *
  have okn := blk_older kn
  have ckn_0 : _ = some _ := blk_cell kn 0
  have ckn_1 : _ = some _ := blk_cell kn 1
  have ckn_2 : _ = some _ := blk_cell kn 2
  have ckn_3 : _ = some _ := blk_cell kn 3
  have ckn_4 : _ = some _ := blk_cell kn 4
  have ckn_5 : _ = some _ := blk_cell kn 5
  have ckn_6 : _ = some _ := blk_cell kn 6
  have ckn_7 : _ = some _ := blk_cell kn 7
  have ckn_8 : _ = some _ := blk_cell kn 8
  have fkn_0 := blk_free kn 0
  have fkn_1 := blk_free kn 1
  have fkn_2 := blk_free kn 2
  have fkn_3 := blk_free kn 3
  have fkn_4 := blk_free kn 4
  have fkn_5 := blk_free kn 5
  have fkn_6 := blk_free kn 6
  have fkn_7 := blk_free kn 7
  have fkn_8 := blk_free kn 8
  unfold grw
  go_enter Try.func120, Try.ntmps120
  go_wp2_with (first | (go_at_call 113; refine Calls.mono (gw_at (xuni_b _ _ _ _ _ _ _ _ _)) ?_; rintro e w1 ⟨rfl, q, rfl⟩) | (go_at_call 124; refine Calls.mono (gw_at (xhp_b _ _ _ _ _)) ?_; rintro e w1 ⟨rfl, q, rfl⟩))
  repeat
    refine wp_region_gw (by kernel_rfl) (by kernel_rfl) ?_
    repeat (go_big_quiet_step ((first | (go_at_call 113; exact gw_call (xuni_b _ _ _ _ _ _ _ _ _)) | (go_at_call 124; exact gw_call (xhp_b _ _ _ _ _)))))
    refine wpQuiet_nil ?_
    intro w1 hw1
    obtain ⟨q, rfl⟩ := hw1
    go_wp2_with (first | (go_at_call 113; refine Calls.mono (gw_at (xuni_b _ _ _ _ _ _ _ _ _)) ?_; rintro e w1 ⟨rfl, q, rfl⟩) | (go_at_call 124; refine Calls.mono (gw_at (xhp_b _ _ _ _ _)) ?_; rintro e w1 ⟨rfl, q, rfl⟩))
  go_ret
  exact ⟨rfl, bBel⟩

set_option maxRecDepth 100000 in
set_option maxHeartbeats 4000000 in
theorem closer_b (n a b : Nat) (N A B : Nd) (w : World) (kn : blk w n (ndc N) 89) (ka : blk w a (ndc A) 89) (kb : blk w b (ndc B) 89) (hl : N.l = some a) (hr : N.r = some b) (q0 q1 q2 q3 : Int) : Calls Try.prog 112 #[.pointer (some ⟨n, 0, none⟩), .agg #[.int .i64 q0, .int .i64 q1, .int .i64 q2, .int .i64 q3]] w fun e w' => e = .returned (.pointer (some ⟨if grw B.x ⟨q0, q1, q2, q3⟩ < grw A.x ⟨q0, q1, q2, q3⟩ then b else a, 0, none⟩)) ∧ Below w.heap.size w w' := by
  have cA := fun w' (h : blk w' a (ndc A) 89) => growth_b a A w' h q0 q1 q2 q3
  have cB := fun w' (h : blk w' b (ndc B) 89) => growth_b b B w' h q0 q1 q2 q3
  obtain ⟨iN, ⟨x0N, y0N, x1N, y1N⟩, hN, pN, lN, rN⟩ := N
  obtain ⟨iA, ⟨x0A, y0A, x1A, y1A⟩, hA, pA, lA, rA⟩ := A
  obtain ⟨iB, ⟨x0B, y0B, x1B, y1B⟩, hB, pB, lB, rB⟩ := B
  dsimp only at hl hr
  subst hl hr
  simp only [ndc, nptr_some] at kn ka kb cA cB
  generalize nptr pN = PN at *
  generalize nptr pA = PA at *
  generalize nptr lA = LA at *
  generalize nptr rA = RA at *
  generalize nptr pB = PB at *
  generalize nptr lB = LB at *
  generalize nptr rB = RB at *
  dsimp only at cA cB ⊢
  have okn := blk_older kn
  have ckn_0 : _ = some _ := blk_cell kn 0
  have ckn_1 : _ = some _ := blk_cell kn 1
  have ckn_2 : _ = some _ := blk_cell kn 2
  have ckn_3 : _ = some _ := blk_cell kn 3
  have ckn_4 : _ = some _ := blk_cell kn 4
  have ckn_5 : _ = some _ := blk_cell kn 5
  have ckn_6 : _ = some _ := blk_cell kn 6
  have ckn_7 : _ = some _ := blk_cell kn 7
  have ckn_8 : _ = some _ := blk_cell kn 8
  have fkn_0 := blk_free kn 0
  have fkn_1 := blk_free kn 1
  have fkn_2 := blk_free kn 2
  have fkn_3 := blk_free kn 3
  have fkn_4 := blk_free kn 4
  have fkn_5 := blk_free kn 5
  have fkn_6 := blk_free kn 6
  have fkn_7 := blk_free kn 7
  have fkn_8 := blk_free kn 8
  have oka := blk_older ka
  have cka_0 : _ = some _ := blk_cell ka 0
  have cka_1 : _ = some _ := blk_cell ka 1
  have cka_2 : _ = some _ := blk_cell ka 2
  have cka_3 : _ = some _ := blk_cell ka 3
  have cka_4 : _ = some _ := blk_cell ka 4
  have cka_5 : _ = some _ := blk_cell ka 5
  have cka_6 : _ = some _ := blk_cell ka 6
  have cka_7 : _ = some _ := blk_cell ka 7
  have cka_8 : _ = some _ := blk_cell ka 8
  have fka_0 := blk_free ka 0
  have fka_1 := blk_free ka 1
  have fka_2 := blk_free ka 2
  have fka_3 := blk_free ka 3
  have fka_4 := blk_free ka 4
  have fka_5 := blk_free ka 5
  have fka_6 := blk_free ka 6
  have fka_7 := blk_free ka 7
  have fka_8 := blk_free ka 8
  have okb := blk_older kb
  have ckb_0 : _ = some _ := blk_cell kb 0
  have ckb_1 : _ = some _ := blk_cell kb 1
  have ckb_2 : _ = some _ := blk_cell kb 2
  have ckb_3 : _ = some _ := blk_cell kb 3
  have ckb_4 : _ = some _ := blk_cell kb 4
  have ckb_5 : _ = some _ := blk_cell kb 5
  have ckb_6 : _ = some _ := blk_cell kb 6
  have ckb_7 : _ = some _ := blk_cell kb 7
  have ckb_8 : _ = some _ := blk_cell kb 8
  have fkb_0 := blk_free kb 0
  have fkb_1 := blk_free kb 1
  have fkb_2 := blk_free kb 2
  have fkb_3 := blk_free kb 3
  have fkb_4 := blk_free kb 4
  have fkb_5 := blk_free kb 5
  have fkb_6 := blk_free kb 6
  have fkb_7 := blk_free kb 7
  have fkb_8 := blk_free kb 8
  generalize grw ⟨x0A, y0A, x1A, y1A⟩ ⟨q0, q1, q2, q3⟩ = gA at *
  generalize grw ⟨x0B, y0B, x1B, y1B⟩ ⟨q0, q1, q2, q3⟩ = gB at *
  by_cases hg : gB < gA
  focus
    rw [if_pos hg]
    go_enter Try.func112, Try.ntmps112
    go_wp2_with fail
    refine wp_region_gw (by kernel_rfl) (by kernel_rfl) ?_
    repeat (go_big_quiet_step (fail))
    refine wpQuiet_nil ?_
    intro w1 hw1
    obtain ⟨q, rfl⟩ := hw1
    go_wp2_with fail
    refine wp_region_gw (by kernel_rfl) (by kernel_rfl) ?_
    repeat (go_big_quiet_step ((first | (go_at_call 120; with_reducible_and_instances exact gw_call (cA _ (by apply blk_of; (repeat (first | with_reducible exact ka | with_reducible apply blk_drew | with_reducible apply blk_gw | with_reducible apply blk_alloc | with_reducible apply blk_set | ((with_reducible apply blk_other); focus omega))); (first | rfl | simp)))) | (go_at_call 120; with_reducible_and_instances exact gw_call (cB _ (by apply blk_of; (repeat (first | with_reducible exact kb | with_reducible apply blk_drew | with_reducible apply blk_gw | with_reducible apply blk_alloc | with_reducible apply blk_set | ((with_reducible apply blk_other); focus omega))); (first | rfl | simp)))))))
    refine wpQuiet_nil ?_
    intro w1 hw1
    obtain ⟨q, rfl⟩ := hw1
    go_wp2_with fail
    go_ret
    exact ⟨rfl, bBel⟩
  rw [if_neg hg]
  go_enter Try.func112, Try.ntmps112
  go_wp2_with fail
  refine wp_region_gw (by kernel_rfl) (by kernel_rfl) ?_
  repeat (go_big_quiet_step (fail))
  refine wpQuiet_nil ?_
  intro w1 hw1
  obtain ⟨q, rfl⟩ := hw1
  go_wp2_with fail
  refine wp_region_gw (by kernel_rfl) (by kernel_rfl) ?_
  repeat (go_big_quiet_step ((first | (go_at_call 120; with_reducible_and_instances exact gw_call (cA _ (by apply blk_of; (repeat (first | with_reducible exact ka | with_reducible apply blk_drew | with_reducible apply blk_gw | with_reducible apply blk_alloc | with_reducible apply blk_set | ((with_reducible apply blk_other); focus omega))); (first | rfl | simp)))) | (go_at_call 120; with_reducible_and_instances exact gw_call (cB _ (by apply blk_of; (repeat (first | with_reducible exact kb | with_reducible apply blk_drew | with_reducible apply blk_gw | with_reducible apply blk_alloc | with_reducible apply blk_set | ((with_reducible apply blk_other); focus omega))); (first | rfl | simp)))))))
  refine wpQuiet_nil ?_
  intro w1 hw1
  obtain ⟨q, rfl⟩ := hw1
  go_wp2_with fail
  go_ret
  exact ⟨rfl, bBel⟩

theorem Rep.below {w w' : World} {M : Nat → Nd} {S : Nat → Prop} (h : Rep w M S) (hb : Below w.heap.size w w') : Rep w' M S := fun b hs => blk_below hb (h b hs)

/-- The leaf that is reached by always choosing the closer child. -/
def Tr.clo (q : Bx) : Tr → Nat × Int × Bx
  | .leaf b i x => (b, i, x)
  | .node _ l r => if grw r.box q < grw l.box q then r.clo q else l.clo q
theorem Tr.clo_mem (q : Bx) : ∀ t : Tr, t.clo q ∈ t.lv
  | .leaf b i x => by simp [Tr.clo, Tr.lv]
  | .node _ l r => by
    simp only [Tr.clo, Tr.lv, List.mem_append]
    split
    · exact .inr (r.clo_mem q)
    · exact .inl (l.clo_mem q)

set_option maxRecDepth 100000 in
set_option maxHeartbeats 4000000 in
theorem closest_b (T : Tr) (M : Nat → Nd) (S : Nat → Prop) (w : World) (hR : Rep w M S) (hL : Lay M T) (hS : ∀ b ∈ T.bs, S b) (q0 q1 q2 q3 : Int) : Calls Try.prog 87 #[.pointer (some ⟨T.b, 0, none⟩), .agg #[.int .i64 q0, .int .i64 q1, .int .i64 q2, .int .i64 q3]] w fun e w' => e = .returned (.pointer (some ⟨(T.clo ⟨q0, q1, q2, q3⟩).1, 0, none⟩)) ∧ Below w.heap.size w w' := by
  obtain ⟨tb, htb⟩ : ∃ tb, Hid (T.b = tb) := ⟨_, rfl⟩
  rw [htb.out]
  obtain ⟨tc, htc⟩ : ∃ tc, Hid (T.clo ⟨q0, q1, q2, q3⟩ = tc) := ⟨_, rfl⟩
  rw [htc.out]
  go_enter Try.func87, Try.ntmps87
  go_wp2_with fail
  go_loopg [0] T.ht (fun k n wr => ∃ t, t.ht = k ∧ n = .pointer (some ⟨t.b, 0, none⟩) ∧ Hid (t.clo ⟨q0, q1, q2, q3⟩ = tc ∧ Lay M t ∧ (∀ b ∈ t.bs, b ∈ T.bs)) ∧ blk wr w.heap.size #[.int .i64 q0, .int .i64 q1, .int .i64 q2, .int .i64 q3] 31 ∧ Below w.heap.size w wr)
  case atStart => exact ⟨T, rfl, by rw [htb.out], ⟨htc.out, hL, fun b h => h⟩, bBkn, bBel⟩
  case round =>
    obtain ⟨t, hk, rfl, hA, kq, hb⟩ := hrel
    have hRr := hR.below hb
    have hsz := hb.size
    have okq := blk_older kq
    have ckq_0 : _ = some _ := blk_cell kq 0
    have ckq_1 : _ = some _ := blk_cell kq 1
    have ckq_2 : _ = some _ := blk_cell kq 2
    have ckq_3 : _ = some _ := blk_cell kq 3
    have fkq_0 := blk_free kq 0
    have fkq_1 := blk_free kq 1
    have fkq_2 := blk_free kq 2
    have fkq_3 := blk_free kq 3
    cases t with
    | leaf b i x =>
      have kb := hRr b (hS b (hA.out.2.2 b (by simp [Tr.bs])))
      have c1 := fun w' (h : Below wr.heap.size wr w') => isleaf_b b (M b) w' (blk_below h kb) true (by have := hA.out.2.1.2.2; simp [this])
      have htb2 : Hid (b = tc.1) := by have := hA.out.1; simp only [Tr.clo] at this; show b = tc.1; rw [← this]
      clear kb hA
      simp only [Tr.b]
      go_wp2_with (first | (go_at_call 111; with_reducible_and_instances refine Calls.mono (gw_at (c1 _ bBel)) ?_; rintro e w1 ⟨rfl, q, rfl⟩))
      go_ret
      exact ⟨by rw [← htb2.out]; rfl, bBel⟩
    | node b l r =>
      obtain ⟨a1, ⟨a2, a3, a4, a5, a6, a7, a8, a9⟩, a10⟩ := hA.out
      have kb := hRr b (hS b (a10 b (by simp [Tr.bs])))
      have kl := hRr l.b (hS _ (a10 _ (by simp [Tr.bs, l.b_mem])))
      have kr := hRr r.b (hS _ (a10 _ (by simp [Tr.bs, r.b_mem])))
      have c1 := fun w' (h : Below wr.heap.size wr w') => isleaf_b b (M b) w' (blk_below h kb) false (by have := l.ht_pos; simp [a3]; omega)
      have c2 := fun w' (h : Below wr.heap.size wr w') => closer_b b l.b r.b (M b) (M l.b) (M r.b) w' (blk_below h kb) (blk_below h kl) (blk_below h kr) a4 a5 q0 q1 q2 q3
      rw [a8.box, a9.box] at c2
      simp only [Tr.clo] at a1
      clear kb kl kr a2 a3 a4 a5 a6 a7
      have hkl : Hid (l.ht < gk ∧ r.ht < gk) := by simp only [Tr.ht] at hk; exact ⟨by omega, by omega⟩
      clear hA hk
      simp only [Tr.b]
      obtain ⟨lb, hlb⟩ : ∃ lb, Hid (l.b = lb) := ⟨_, rfl⟩
      obtain ⟨rb, hrb⟩ : ∃ rb, Hid (r.b = rb) := ⟨_, rfl⟩
      rw [hlb.out, hrb.out] at c2
      by_cases hg : grw r.box ⟨q0, q1, q2, q3⟩ < grw l.box ⟨q0, q1, q2, q3⟩
      · rw [if_pos hg] at c2 a1
        have hr : Hid (r.clo ⟨q0, q1, q2, q3⟩ = tc ∧ Lay M r ∧ (∀ k ∈ r.bs, k ∈ T.bs)) := ⟨a1, a9, fun k hk => a10 k (by simp [Tr.bs, hk])⟩
        clear hg a1 a8 a9 a10
        go_wp2_with (first | (go_at_call 111; with_reducible_and_instances refine Calls.mono (gw_at (c1 _ bBel)) ?_; rintro e w1 ⟨rfl, q, rfl⟩) | (go_at_call 112; with_reducible_and_instances refine Calls.mono (gw_at (c2 _ bBel)) ?_; rintro e w1 ⟨rfl, q, rfl⟩))
        go_roundg r.ht
        case measure => exact hkl.out.2
        case rel => exact ⟨r, rfl, by rw [hrb.out], hr, (by apply blk_of; (repeat (first | with_reducible exact kq | with_reducible apply blk_drew | with_reducible apply blk_gw | with_reducible apply blk_alloc | with_reducible apply blk_set | ((with_reducible apply blk_other); focus omega))); (first | rfl | simp)), bBel⟩
      · rw [if_neg hg] at c2 a1
        have hl : Hid (l.clo ⟨q0, q1, q2, q3⟩ = tc ∧ Lay M l ∧ (∀ k ∈ l.bs, k ∈ T.bs)) := ⟨a1, a8, fun k hk => a10 k (by simp [Tr.bs, hk])⟩
        clear hg a1 a8 a9 a10
        go_wp2_with (first | (go_at_call 111; with_reducible_and_instances refine Calls.mono (gw_at (c1 _ bBel)) ?_; rintro e w1 ⟨rfl, q, rfl⟩) | (go_at_call 112; with_reducible_and_instances refine Calls.mono (gw_at (c2 _ bBel)) ?_; rintro e w1 ⟨rfl, q, rfl⟩))
        go_roundg l.ht
        case measure => exact hkl.out.1
        case rel => exact ⟨l, rfl, by rw [hlb.out], hl, (by apply blk_of; (repeat (first | with_reducible exact kq | with_reducible apply blk_drew | with_reducible apply blk_gw | with_reducible apply blk_alloc | with_reducible apply blk_set | ((with_reducible apply blk_other); focus omega))); (first | rfl | simp)), bBel⟩

set_option maxRecDepth 100000 in
set_option maxHeartbeats 4000000 in
theorem split_b (n a b : Nat) (N A B : Nd) (w : World) (kn : blk w n (ndc N) 89) (ka : blk w a (ndc A) 89) (kb : blk w b (ndc B) 89) (hl : N.l = some a) (hr : N.r = some b) (hab : a ≠ b) (q0 q1 q2 q3 : Int) (hA : 0 ≤ A.h ∧ A.h ≤ 1000000000) (hB : 0 ≤ B.h ∧ B.h ≤ 1000000000) : Calls Try.prog 122 #[.pointer (some ⟨n, 0, none⟩), .agg #[.int .i64 q0, .int .i64 q1, .int .i64 q2, .int .i64 q3]] w fun e w' => ((e = .returned (.tuple #[.pointer (some ⟨a, 0, none⟩), .pointer (some ⟨b, 0, none⟩)]) ∧ A.h ≤ B.h) ∨ (e = .returned (.tuple #[.pointer (some ⟨b, 0, none⟩), .pointer (some ⟨a, 0, none⟩)]) ∧ B.h ≤ A.h)) ∧ Below w.heap.size w w' := by
  have cC := fun w' (h1 : blk w' n (ndc N) 89) (h2 : blk w' a (ndc A) 89) (h3 : blk w' b (ndc B) 89) => closer_b n a b N A B w' h1 h2 h3 hl hr q0 q1 q2 q3
  obtain ⟨iN, ⟨x0N, y0N, x1N, y1N⟩, hN, pN, lN, rN⟩ := N
  obtain ⟨iA, ⟨x0A, y0A, x1A, y1A⟩, hA', pA, lA, rA⟩ := A
  obtain ⟨iB, ⟨x0B, y0B, x1B, y1B⟩, hB', pB, lB, rB⟩ := B
  dsimp only at hl hr
  subst hl hr
  simp only [ndc, nptr_some] at kn ka kb cC
  generalize nptr pN = PN at *
  generalize nptr pA = PA at *
  generalize nptr lA = LA at *
  generalize nptr rA = RA at *
  generalize nptr pB = PB at *
  generalize nptr lB = LB at *
  generalize nptr rB = RB at *
  dsimp only at cC hA hB ⊢
  have okn := blk_older kn
  have ckn_0 : _ = some _ := blk_cell kn 0
  have ckn_1 : _ = some _ := blk_cell kn 1
  have ckn_2 : _ = some _ := blk_cell kn 2
  have ckn_3 : _ = some _ := blk_cell kn 3
  have ckn_4 : _ = some _ := blk_cell kn 4
  have ckn_5 : _ = some _ := blk_cell kn 5
  have ckn_6 : _ = some _ := blk_cell kn 6
  have ckn_7 : _ = some _ := blk_cell kn 7
  have ckn_8 : _ = some _ := blk_cell kn 8
  have fkn_0 := blk_free kn 0
  have fkn_1 := blk_free kn 1
  have fkn_2 := blk_free kn 2
  have fkn_3 := blk_free kn 3
  have fkn_4 := blk_free kn 4
  have fkn_5 := blk_free kn 5
  have fkn_6 := blk_free kn 6
  have fkn_7 := blk_free kn 7
  have fkn_8 := blk_free kn 8
  have oka := blk_older ka
  have cka_0 : _ = some _ := blk_cell ka 0
  have cka_1 : _ = some _ := blk_cell ka 1
  have cka_2 : _ = some _ := blk_cell ka 2
  have cka_3 : _ = some _ := blk_cell ka 3
  have cka_4 : _ = some _ := blk_cell ka 4
  have cka_5 : _ = some _ := blk_cell ka 5
  have cka_6 : _ = some _ := blk_cell ka 6
  have cka_7 : _ = some _ := blk_cell ka 7
  have cka_8 : _ = some _ := blk_cell ka 8
  have fka_0 := blk_free ka 0
  have fka_1 := blk_free ka 1
  have fka_2 := blk_free ka 2
  have fka_3 := blk_free ka 3
  have fka_4 := blk_free ka 4
  have fka_5 := blk_free ka 5
  have fka_6 := blk_free ka 6
  have fka_7 := blk_free ka 7
  have fka_8 := blk_free ka 8
  have okb := blk_older kb
  have ckb_0 : _ = some _ := blk_cell kb 0
  have ckb_1 : _ = some _ := blk_cell kb 1
  have ckb_2 : _ = some _ := blk_cell kb 2
  have ckb_3 : _ = some _ := blk_cell kb 3
  have ckb_4 : _ = some _ := blk_cell kb 4
  have ckb_5 : _ = some _ := blk_cell kb 5
  have ckb_6 : _ = some _ := blk_cell kb 6
  have ckb_7 : _ = some _ := blk_cell kb 7
  have ckb_8 : _ = some _ := blk_cell kb 8
  have fkb_0 := blk_free kb 0
  have fkb_1 := blk_free kb 1
  have fkb_2 := blk_free kb 2
  have fkb_3 := blk_free kb 3
  have fkb_4 := blk_free kb 4
  have fkb_5 := blk_free kb 5
  have fkb_6 := blk_free kb 6
  have fkb_7 := blk_free kb 7
  have fkb_8 := blk_free kb 8
  have hba : b ≠ a := Ne.symm hab
  have cS := fun o w' => @ptr_same o w'
  obtain ⟨h1, h2⟩ := hA
  obtain ⟨h3, h4⟩ := hB
  by_cases hg : grw ⟨x0B, y0B, x1B, y1B⟩ ⟨q0, q1, q2, q3⟩ < grw ⟨x0A, y0A, x1A, y1A⟩ ⟨q0, q1, q2, q3⟩
  focus
    rw [if_pos hg] at cC
    clear hg
    by_cases hh : hA' < hB'
    focus
      go_enter Try.func122, Try.ntmps122
      go_upto_region 3 with (go_at_call 112; with_reducible_and_instances refine Calls.mono (gw_at (cC _ (by apply blk_of; (repeat (first | with_reducible exact kn | with_reducible apply blk_drew | with_reducible apply blk_gw | with_reducible apply blk_alloc | with_reducible apply blk_set | ((with_reducible apply blk_other); focus omega))); (first | rfl | simp)) (by apply blk_of; (repeat (first | with_reducible exact ka | with_reducible apply blk_drew | with_reducible apply blk_gw | with_reducible apply blk_alloc | with_reducible apply blk_set | ((with_reducible apply blk_other); focus omega))); (first | rfl | simp)) (by apply blk_of; (repeat (first | with_reducible exact kb | with_reducible apply blk_drew | with_reducible apply blk_gw | with_reducible apply blk_alloc | with_reducible apply blk_set | ((with_reducible apply blk_other); focus omega))); (first | rfl | simp)))) ?_; rintro e w1 ⟨rfl, q, rfl⟩)
      refine wp_named ?_
      intro X hX
      have kn_1 : blk X n #[.int .i64 iN, .int .i64 x0N, .int .i64 y0N, .int .i64 x1N, .int .i64 y1N, .int .i64 hN, PN, .pointer (some ⟨a, 0, none⟩), .pointer (some ⟨b, 0, none⟩)] 89 := by rw [hX]; exact (by apply blk_of; (repeat (first | with_reducible exact kn | with_reducible apply blk_drew | with_reducible apply blk_gw | with_reducible apply blk_alloc | with_reducible apply blk_set | ((with_reducible apply blk_other); focus omega))); (first | rfl | simp))
      have ka_1 : blk X a #[.int .i64 iA, .int .i64 x0A, .int .i64 y0A, .int .i64 x1A, .int .i64 y1A, .int .i64 hA', PA, LA, RA] 89 := by rw [hX]; exact (by apply blk_of; (repeat (first | with_reducible exact ka | with_reducible apply blk_drew | with_reducible apply blk_gw | with_reducible apply blk_alloc | with_reducible apply blk_set | ((with_reducible apply blk_other); focus omega))); (first | rfl | simp))
      have kb_1 : blk X b #[.int .i64 iB, .int .i64 x0B, .int .i64 y0B, .int .i64 x1B, .int .i64 y1B, .int .i64 hB', PB, LB, RB] 89 := by rw [hX]; exact (by apply blk_of; (repeat (first | with_reducible exact kb | with_reducible apply blk_drew | with_reducible apply blk_gw | with_reducible apply blk_alloc | with_reducible apply blk_set | ((with_reducible apply blk_other); focus omega))); (first | rfl | simp))
      have hbX : Below w.heap.size w X := by rw [hX]; exact bBel
      have hzX := hbX.size
      clear hX
      clear okn ckn_0 ckn_1 ckn_2 ckn_3 ckn_4 ckn_5 ckn_6 ckn_7 ckn_8 fkn_0 fkn_1 fkn_2 fkn_3 fkn_4 fkn_5 fkn_6 fkn_7 fkn_8 oka cka_0 cka_1 cka_2 cka_3 cka_4 cka_5 cka_6 cka_7 cka_8 fka_0 fka_1 fka_2 fka_3 fka_4 fka_5 fka_6 fka_7 fka_8 okb ckb_0 ckb_1 ckb_2 ckb_3 ckb_4 ckb_5 ckb_6 ckb_7 ckb_8 fkb_0 fkb_1 fkb_2 fkb_3 fkb_4 fkb_5 fkb_6 fkb_7 fkb_8
      clear kn ka kb
      have okn_1 := blk_older kn_1
      have ckn_1_0 : _ = some _ := blk_cell kn_1 0
      have ckn_1_1 : _ = some _ := blk_cell kn_1 1
      have ckn_1_2 : _ = some _ := blk_cell kn_1 2
      have ckn_1_3 : _ = some _ := blk_cell kn_1 3
      have ckn_1_4 : _ = some _ := blk_cell kn_1 4
      have ckn_1_5 : _ = some _ := blk_cell kn_1 5
      have ckn_1_6 : _ = some _ := blk_cell kn_1 6
      have ckn_1_7 : _ = some _ := blk_cell kn_1 7
      have ckn_1_8 : _ = some _ := blk_cell kn_1 8
      have fkn_1_0 := blk_free kn_1 0
      have fkn_1_1 := blk_free kn_1 1
      have fkn_1_2 := blk_free kn_1 2
      have fkn_1_3 := blk_free kn_1 3
      have fkn_1_4 := blk_free kn_1 4
      have fkn_1_5 := blk_free kn_1 5
      have fkn_1_6 := blk_free kn_1 6
      have fkn_1_7 := blk_free kn_1 7
      have fkn_1_8 := blk_free kn_1 8
      have oka_1 := blk_older ka_1
      have cka_1_0 : _ = some _ := blk_cell ka_1 0
      have cka_1_1 : _ = some _ := blk_cell ka_1 1
      have cka_1_2 : _ = some _ := blk_cell ka_1 2
      have cka_1_3 : _ = some _ := blk_cell ka_1 3
      have cka_1_4 : _ = some _ := blk_cell ka_1 4
      have cka_1_5 : _ = some _ := blk_cell ka_1 5
      have cka_1_6 : _ = some _ := blk_cell ka_1 6
      have cka_1_7 : _ = some _ := blk_cell ka_1 7
      have cka_1_8 : _ = some _ := blk_cell ka_1 8
      have fka_1_0 := blk_free ka_1 0
      have fka_1_1 := blk_free ka_1 1
      have fka_1_2 := blk_free ka_1 2
      have fka_1_3 := blk_free ka_1 3
      have fka_1_4 := blk_free ka_1 4
      have fka_1_5 := blk_free ka_1 5
      have fka_1_6 := blk_free ka_1 6
      have fka_1_7 := blk_free ka_1 7
      have fka_1_8 := blk_free ka_1 8
      have okb_1 := blk_older kb_1
      have ckb_1_0 : _ = some _ := blk_cell kb_1 0
      have ckb_1_1 : _ = some _ := blk_cell kb_1 1
      have ckb_1_2 : _ = some _ := blk_cell kb_1 2
      have ckb_1_3 : _ = some _ := blk_cell kb_1 3
      have ckb_1_4 : _ = some _ := blk_cell kb_1 4
      have ckb_1_5 : _ = some _ := blk_cell kb_1 5
      have ckb_1_6 : _ = some _ := blk_cell kb_1 6
      have ckb_1_7 : _ = some _ := blk_cell kb_1 7
      have ckb_1_8 : _ = some _ := blk_cell kb_1 8
      have fkb_1_0 := blk_free kb_1 0
      have fkb_1_1 := blk_free kb_1 1
      have fkb_1_2 := blk_free kb_1 2
      have fkb_1_3 := blk_free kb_1 3
      have fkb_1_4 := blk_free kb_1 4
      have fkb_1_5 := blk_free kb_1 5
      have fkb_1_6 := blk_free kb_1 6
      have fkb_1_7 := blk_free kb_1 7
      have fkb_1_8 := blk_free kb_1 8
      have he := ptr_other hab ka_1 kb_1
      go_wp2_with fail
      refine wp_region_gw (by kernel_rfl) (by kernel_rfl) ?_
      repeat (go_big_quiet_step (fail))
      refine wpQuiet_nil ?_
      intro w1 hw1
      obtain ⟨q, rfl⟩ := hw1
      go_wp2_with fail
      exact bodyPost_ret (v := .tuple #[.pointer (some ⟨a, 0, none⟩), .pointer (some ⟨b, 0, none⟩)]) (by simp [results, Try.results122, go_sem]) rfl ⟨Or.inl ⟨rfl, by omega⟩, bBel⟩
    go_enter Try.func122, Try.ntmps122
    go_upto_region 3 with (go_at_call 112; with_reducible_and_instances refine Calls.mono (gw_at (cC _ (by apply blk_of; (repeat (first | with_reducible exact kn | with_reducible apply blk_drew | with_reducible apply blk_gw | with_reducible apply blk_alloc | with_reducible apply blk_set | ((with_reducible apply blk_other); focus omega))); (first | rfl | simp)) (by apply blk_of; (repeat (first | with_reducible exact ka | with_reducible apply blk_drew | with_reducible apply blk_gw | with_reducible apply blk_alloc | with_reducible apply blk_set | ((with_reducible apply blk_other); focus omega))); (first | rfl | simp)) (by apply blk_of; (repeat (first | with_reducible exact kb | with_reducible apply blk_drew | with_reducible apply blk_gw | with_reducible apply blk_alloc | with_reducible apply blk_set | ((with_reducible apply blk_other); focus omega))); (first | rfl | simp)))) ?_; rintro e w1 ⟨rfl, q, rfl⟩)
    refine wp_named ?_
    intro X hX
    have kn_1 : blk X n #[.int .i64 iN, .int .i64 x0N, .int .i64 y0N, .int .i64 x1N, .int .i64 y1N, .int .i64 hN, PN, .pointer (some ⟨a, 0, none⟩), .pointer (some ⟨b, 0, none⟩)] 89 := by rw [hX]; exact (by apply blk_of; (repeat (first | with_reducible exact kn | with_reducible apply blk_drew | with_reducible apply blk_gw | with_reducible apply blk_alloc | with_reducible apply blk_set | ((with_reducible apply blk_other); focus omega))); (first | rfl | simp))
    have ka_1 : blk X a #[.int .i64 iA, .int .i64 x0A, .int .i64 y0A, .int .i64 x1A, .int .i64 y1A, .int .i64 hA', PA, LA, RA] 89 := by rw [hX]; exact (by apply blk_of; (repeat (first | with_reducible exact ka | with_reducible apply blk_drew | with_reducible apply blk_gw | with_reducible apply blk_alloc | with_reducible apply blk_set | ((with_reducible apply blk_other); focus omega))); (first | rfl | simp))
    have kb_1 : blk X b #[.int .i64 iB, .int .i64 x0B, .int .i64 y0B, .int .i64 x1B, .int .i64 y1B, .int .i64 hB', PB, LB, RB] 89 := by rw [hX]; exact (by apply blk_of; (repeat (first | with_reducible exact kb | with_reducible apply blk_drew | with_reducible apply blk_gw | with_reducible apply blk_alloc | with_reducible apply blk_set | ((with_reducible apply blk_other); focus omega))); (first | rfl | simp))
    have hbX : Below w.heap.size w X := by rw [hX]; exact bBel
    have hzX := hbX.size
    clear hX
    clear okn ckn_0 ckn_1 ckn_2 ckn_3 ckn_4 ckn_5 ckn_6 ckn_7 ckn_8 fkn_0 fkn_1 fkn_2 fkn_3 fkn_4 fkn_5 fkn_6 fkn_7 fkn_8 oka cka_0 cka_1 cka_2 cka_3 cka_4 cka_5 cka_6 cka_7 cka_8 fka_0 fka_1 fka_2 fka_3 fka_4 fka_5 fka_6 fka_7 fka_8 okb ckb_0 ckb_1 ckb_2 ckb_3 ckb_4 ckb_5 ckb_6 ckb_7 ckb_8 fkb_0 fkb_1 fkb_2 fkb_3 fkb_4 fkb_5 fkb_6 fkb_7 fkb_8
    clear kn ka kb
    have okn_1 := blk_older kn_1
    have ckn_1_0 : _ = some _ := blk_cell kn_1 0
    have ckn_1_1 : _ = some _ := blk_cell kn_1 1
    have ckn_1_2 : _ = some _ := blk_cell kn_1 2
    have ckn_1_3 : _ = some _ := blk_cell kn_1 3
    have ckn_1_4 : _ = some _ := blk_cell kn_1 4
    have ckn_1_5 : _ = some _ := blk_cell kn_1 5
    have ckn_1_6 : _ = some _ := blk_cell kn_1 6
    have ckn_1_7 : _ = some _ := blk_cell kn_1 7
    have ckn_1_8 : _ = some _ := blk_cell kn_1 8
    have fkn_1_0 := blk_free kn_1 0
    have fkn_1_1 := blk_free kn_1 1
    have fkn_1_2 := blk_free kn_1 2
    have fkn_1_3 := blk_free kn_1 3
    have fkn_1_4 := blk_free kn_1 4
    have fkn_1_5 := blk_free kn_1 5
    have fkn_1_6 := blk_free kn_1 6
    have fkn_1_7 := blk_free kn_1 7
    have fkn_1_8 := blk_free kn_1 8
    have oka_1 := blk_older ka_1
    have cka_1_0 : _ = some _ := blk_cell ka_1 0
    have cka_1_1 : _ = some _ := blk_cell ka_1 1
    have cka_1_2 : _ = some _ := blk_cell ka_1 2
    have cka_1_3 : _ = some _ := blk_cell ka_1 3
    have cka_1_4 : _ = some _ := blk_cell ka_1 4
    have cka_1_5 : _ = some _ := blk_cell ka_1 5
    have cka_1_6 : _ = some _ := blk_cell ka_1 6
    have cka_1_7 : _ = some _ := blk_cell ka_1 7
    have cka_1_8 : _ = some _ := blk_cell ka_1 8
    have fka_1_0 := blk_free ka_1 0
    have fka_1_1 := blk_free ka_1 1
    have fka_1_2 := blk_free ka_1 2
    have fka_1_3 := blk_free ka_1 3
    have fka_1_4 := blk_free ka_1 4
    have fka_1_5 := blk_free ka_1 5
    have fka_1_6 := blk_free ka_1 6
    have fka_1_7 := blk_free ka_1 7
    have fka_1_8 := blk_free ka_1 8
    have okb_1 := blk_older kb_1
    have ckb_1_0 : _ = some _ := blk_cell kb_1 0
    have ckb_1_1 : _ = some _ := blk_cell kb_1 1
    have ckb_1_2 : _ = some _ := blk_cell kb_1 2
    have ckb_1_3 : _ = some _ := blk_cell kb_1 3
    have ckb_1_4 : _ = some _ := blk_cell kb_1 4
    have ckb_1_5 : _ = some _ := blk_cell kb_1 5
    have ckb_1_6 : _ = some _ := blk_cell kb_1 6
    have ckb_1_7 : _ = some _ := blk_cell kb_1 7
    have ckb_1_8 : _ = some _ := blk_cell kb_1 8
    have fkb_1_0 := blk_free kb_1 0
    have fkb_1_1 := blk_free kb_1 1
    have fkb_1_2 := blk_free kb_1 2
    have fkb_1_3 := blk_free kb_1 3
    have fkb_1_4 := blk_free kb_1 4
    have fkb_1_5 := blk_free kb_1 5
    have fkb_1_6 := blk_free kb_1 6
    have fkb_1_7 := blk_free kb_1 7
    have fkb_1_8 := blk_free kb_1 8
    have he := ptr_other hab ka_1 kb_1
    go_wp2_with fail
    refine wp_region_gw (by kernel_rfl) (by kernel_rfl) ?_
    repeat (go_big_quiet_step (fail))
    refine wpQuiet_nil ?_
    intro w1 hw1
    obtain ⟨q, rfl⟩ := hw1
    go_wp2_with fail
    exact bodyPost_ret (v := .tuple #[.pointer (some ⟨b, 0, none⟩), .pointer (some ⟨a, 0, none⟩)]) (by simp [results, Try.results122, go_sem]) rfl ⟨Or.inr ⟨rfl, by omega⟩, bBel⟩
  rw [if_neg hg] at cC
  clear hg
  by_cases hh : hB' < hA'
  focus
    go_enter Try.func122, Try.ntmps122
    go_upto_region 3 with (go_at_call 112; with_reducible_and_instances refine Calls.mono (gw_at (cC _ (by apply blk_of; (repeat (first | with_reducible exact kn | with_reducible apply blk_drew | with_reducible apply blk_gw | with_reducible apply blk_alloc | with_reducible apply blk_set | ((with_reducible apply blk_other); focus omega))); (first | rfl | simp)) (by apply blk_of; (repeat (first | with_reducible exact ka | with_reducible apply blk_drew | with_reducible apply blk_gw | with_reducible apply blk_alloc | with_reducible apply blk_set | ((with_reducible apply blk_other); focus omega))); (first | rfl | simp)) (by apply blk_of; (repeat (first | with_reducible exact kb | with_reducible apply blk_drew | with_reducible apply blk_gw | with_reducible apply blk_alloc | with_reducible apply blk_set | ((with_reducible apply blk_other); focus omega))); (first | rfl | simp)))) ?_; rintro e w1 ⟨rfl, q, rfl⟩)
    refine wp_named ?_
    intro X hX
    have kn_1 : blk X n #[.int .i64 iN, .int .i64 x0N, .int .i64 y0N, .int .i64 x1N, .int .i64 y1N, .int .i64 hN, PN, .pointer (some ⟨a, 0, none⟩), .pointer (some ⟨b, 0, none⟩)] 89 := by rw [hX]; exact (by apply blk_of; (repeat (first | with_reducible exact kn | with_reducible apply blk_drew | with_reducible apply blk_gw | with_reducible apply blk_alloc | with_reducible apply blk_set | ((with_reducible apply blk_other); focus omega))); (first | rfl | simp))
    have ka_1 : blk X a #[.int .i64 iA, .int .i64 x0A, .int .i64 y0A, .int .i64 x1A, .int .i64 y1A, .int .i64 hA', PA, LA, RA] 89 := by rw [hX]; exact (by apply blk_of; (repeat (first | with_reducible exact ka | with_reducible apply blk_drew | with_reducible apply blk_gw | with_reducible apply blk_alloc | with_reducible apply blk_set | ((with_reducible apply blk_other); focus omega))); (first | rfl | simp))
    have kb_1 : blk X b #[.int .i64 iB, .int .i64 x0B, .int .i64 y0B, .int .i64 x1B, .int .i64 y1B, .int .i64 hB', PB, LB, RB] 89 := by rw [hX]; exact (by apply blk_of; (repeat (first | with_reducible exact kb | with_reducible apply blk_drew | with_reducible apply blk_gw | with_reducible apply blk_alloc | with_reducible apply blk_set | ((with_reducible apply blk_other); focus omega))); (first | rfl | simp))
    have hbX : Below w.heap.size w X := by rw [hX]; exact bBel
    have hzX := hbX.size
    clear hX
    clear okn ckn_0 ckn_1 ckn_2 ckn_3 ckn_4 ckn_5 ckn_6 ckn_7 ckn_8 fkn_0 fkn_1 fkn_2 fkn_3 fkn_4 fkn_5 fkn_6 fkn_7 fkn_8 oka cka_0 cka_1 cka_2 cka_3 cka_4 cka_5 cka_6 cka_7 cka_8 fka_0 fka_1 fka_2 fka_3 fka_4 fka_5 fka_6 fka_7 fka_8 okb ckb_0 ckb_1 ckb_2 ckb_3 ckb_4 ckb_5 ckb_6 ckb_7 ckb_8 fkb_0 fkb_1 fkb_2 fkb_3 fkb_4 fkb_5 fkb_6 fkb_7 fkb_8
    clear kn ka kb
    have okn_1 := blk_older kn_1
    have ckn_1_0 : _ = some _ := blk_cell kn_1 0
    have ckn_1_1 : _ = some _ := blk_cell kn_1 1
    have ckn_1_2 : _ = some _ := blk_cell kn_1 2
    have ckn_1_3 : _ = some _ := blk_cell kn_1 3
    have ckn_1_4 : _ = some _ := blk_cell kn_1 4
    have ckn_1_5 : _ = some _ := blk_cell kn_1 5
    have ckn_1_6 : _ = some _ := blk_cell kn_1 6
    have ckn_1_7 : _ = some _ := blk_cell kn_1 7
    have ckn_1_8 : _ = some _ := blk_cell kn_1 8
    have fkn_1_0 := blk_free kn_1 0
    have fkn_1_1 := blk_free kn_1 1
    have fkn_1_2 := blk_free kn_1 2
    have fkn_1_3 := blk_free kn_1 3
    have fkn_1_4 := blk_free kn_1 4
    have fkn_1_5 := blk_free kn_1 5
    have fkn_1_6 := blk_free kn_1 6
    have fkn_1_7 := blk_free kn_1 7
    have fkn_1_8 := blk_free kn_1 8
    have oka_1 := blk_older ka_1
    have cka_1_0 : _ = some _ := blk_cell ka_1 0
    have cka_1_1 : _ = some _ := blk_cell ka_1 1
    have cka_1_2 : _ = some _ := blk_cell ka_1 2
    have cka_1_3 : _ = some _ := blk_cell ka_1 3
    have cka_1_4 : _ = some _ := blk_cell ka_1 4
    have cka_1_5 : _ = some _ := blk_cell ka_1 5
    have cka_1_6 : _ = some _ := blk_cell ka_1 6
    have cka_1_7 : _ = some _ := blk_cell ka_1 7
    have cka_1_8 : _ = some _ := blk_cell ka_1 8
    have fka_1_0 := blk_free ka_1 0
    have fka_1_1 := blk_free ka_1 1
    have fka_1_2 := blk_free ka_1 2
    have fka_1_3 := blk_free ka_1 3
    have fka_1_4 := blk_free ka_1 4
    have fka_1_5 := blk_free ka_1 5
    have fka_1_6 := blk_free ka_1 6
    have fka_1_7 := blk_free ka_1 7
    have fka_1_8 := blk_free ka_1 8
    have okb_1 := blk_older kb_1
    have ckb_1_0 : _ = some _ := blk_cell kb_1 0
    have ckb_1_1 : _ = some _ := blk_cell kb_1 1
    have ckb_1_2 : _ = some _ := blk_cell kb_1 2
    have ckb_1_3 : _ = some _ := blk_cell kb_1 3
    have ckb_1_4 : _ = some _ := blk_cell kb_1 4
    have ckb_1_5 : _ = some _ := blk_cell kb_1 5
    have ckb_1_6 : _ = some _ := blk_cell kb_1 6
    have ckb_1_7 : _ = some _ := blk_cell kb_1 7
    have ckb_1_8 : _ = some _ := blk_cell kb_1 8
    have fkb_1_0 := blk_free kb_1 0
    have fkb_1_1 := blk_free kb_1 1
    have fkb_1_2 := blk_free kb_1 2
    have fkb_1_3 := blk_free kb_1 3
    have fkb_1_4 := blk_free kb_1 4
    have fkb_1_5 := blk_free kb_1 5
    have fkb_1_6 := blk_free kb_1 6
    have fkb_1_7 := blk_free kb_1 7
    have fkb_1_8 := blk_free kb_1 8
    have he := cS a
    go_wp2_with fail
    refine wp_region_gw (by kernel_rfl) (by kernel_rfl) ?_
    repeat (go_big_quiet_step (fail))
    refine wpQuiet_nil ?_
    intro w1 hw1
    obtain ⟨q, rfl⟩ := hw1
    go_wp2_with fail
    exact bodyPost_ret (v := .tuple #[.pointer (some ⟨b, 0, none⟩), .pointer (some ⟨a, 0, none⟩)]) (by simp [results, Try.results122, go_sem]) rfl ⟨Or.inr ⟨rfl, by omega⟩, bBel⟩
  go_enter Try.func122, Try.ntmps122
  go_upto_region 3 with (go_at_call 112; with_reducible_and_instances refine Calls.mono (gw_at (cC _ (by apply blk_of; (repeat (first | with_reducible exact kn | with_reducible apply blk_drew | with_reducible apply blk_gw | with_reducible apply blk_alloc | with_reducible apply blk_set | ((with_reducible apply blk_other); focus omega))); (first | rfl | simp)) (by apply blk_of; (repeat (first | with_reducible exact ka | with_reducible apply blk_drew | with_reducible apply blk_gw | with_reducible apply blk_alloc | with_reducible apply blk_set | ((with_reducible apply blk_other); focus omega))); (first | rfl | simp)) (by apply blk_of; (repeat (first | with_reducible exact kb | with_reducible apply blk_drew | with_reducible apply blk_gw | with_reducible apply blk_alloc | with_reducible apply blk_set | ((with_reducible apply blk_other); focus omega))); (first | rfl | simp)))) ?_; rintro e w1 ⟨rfl, q, rfl⟩)
  refine wp_named ?_
  intro X hX
  have kn_1 : blk X n #[.int .i64 iN, .int .i64 x0N, .int .i64 y0N, .int .i64 x1N, .int .i64 y1N, .int .i64 hN, PN, .pointer (some ⟨a, 0, none⟩), .pointer (some ⟨b, 0, none⟩)] 89 := by rw [hX]; exact (by apply blk_of; (repeat (first | with_reducible exact kn | with_reducible apply blk_drew | with_reducible apply blk_gw | with_reducible apply blk_alloc | with_reducible apply blk_set | ((with_reducible apply blk_other); focus omega))); (first | rfl | simp))
  have ka_1 : blk X a #[.int .i64 iA, .int .i64 x0A, .int .i64 y0A, .int .i64 x1A, .int .i64 y1A, .int .i64 hA', PA, LA, RA] 89 := by rw [hX]; exact (by apply blk_of; (repeat (first | with_reducible exact ka | with_reducible apply blk_drew | with_reducible apply blk_gw | with_reducible apply blk_alloc | with_reducible apply blk_set | ((with_reducible apply blk_other); focus omega))); (first | rfl | simp))
  have kb_1 : blk X b #[.int .i64 iB, .int .i64 x0B, .int .i64 y0B, .int .i64 x1B, .int .i64 y1B, .int .i64 hB', PB, LB, RB] 89 := by rw [hX]; exact (by apply blk_of; (repeat (first | with_reducible exact kb | with_reducible apply blk_drew | with_reducible apply blk_gw | with_reducible apply blk_alloc | with_reducible apply blk_set | ((with_reducible apply blk_other); focus omega))); (first | rfl | simp))
  have hbX : Below w.heap.size w X := by rw [hX]; exact bBel
  have hzX := hbX.size
  clear hX
  clear okn ckn_0 ckn_1 ckn_2 ckn_3 ckn_4 ckn_5 ckn_6 ckn_7 ckn_8 fkn_0 fkn_1 fkn_2 fkn_3 fkn_4 fkn_5 fkn_6 fkn_7 fkn_8 oka cka_0 cka_1 cka_2 cka_3 cka_4 cka_5 cka_6 cka_7 cka_8 fka_0 fka_1 fka_2 fka_3 fka_4 fka_5 fka_6 fka_7 fka_8 okb ckb_0 ckb_1 ckb_2 ckb_3 ckb_4 ckb_5 ckb_6 ckb_7 ckb_8 fkb_0 fkb_1 fkb_2 fkb_3 fkb_4 fkb_5 fkb_6 fkb_7 fkb_8
  clear kn ka kb
  have okn_1 := blk_older kn_1
  have ckn_1_0 : _ = some _ := blk_cell kn_1 0
  have ckn_1_1 : _ = some _ := blk_cell kn_1 1
  have ckn_1_2 : _ = some _ := blk_cell kn_1 2
  have ckn_1_3 : _ = some _ := blk_cell kn_1 3
  have ckn_1_4 : _ = some _ := blk_cell kn_1 4
  have ckn_1_5 : _ = some _ := blk_cell kn_1 5
  have ckn_1_6 : _ = some _ := blk_cell kn_1 6
  have ckn_1_7 : _ = some _ := blk_cell kn_1 7
  have ckn_1_8 : _ = some _ := blk_cell kn_1 8
  have fkn_1_0 := blk_free kn_1 0
  have fkn_1_1 := blk_free kn_1 1
  have fkn_1_2 := blk_free kn_1 2
  have fkn_1_3 := blk_free kn_1 3
  have fkn_1_4 := blk_free kn_1 4
  have fkn_1_5 := blk_free kn_1 5
  have fkn_1_6 := blk_free kn_1 6
  have fkn_1_7 := blk_free kn_1 7
  have fkn_1_8 := blk_free kn_1 8
  have oka_1 := blk_older ka_1
  have cka_1_0 : _ = some _ := blk_cell ka_1 0
  have cka_1_1 : _ = some _ := blk_cell ka_1 1
  have cka_1_2 : _ = some _ := blk_cell ka_1 2
  have cka_1_3 : _ = some _ := blk_cell ka_1 3
  have cka_1_4 : _ = some _ := blk_cell ka_1 4
  have cka_1_5 : _ = some _ := blk_cell ka_1 5
  have cka_1_6 : _ = some _ := blk_cell ka_1 6
  have cka_1_7 : _ = some _ := blk_cell ka_1 7
  have cka_1_8 : _ = some _ := blk_cell ka_1 8
  have fka_1_0 := blk_free ka_1 0
  have fka_1_1 := blk_free ka_1 1
  have fka_1_2 := blk_free ka_1 2
  have fka_1_3 := blk_free ka_1 3
  have fka_1_4 := blk_free ka_1 4
  have fka_1_5 := blk_free ka_1 5
  have fka_1_6 := blk_free ka_1 6
  have fka_1_7 := blk_free ka_1 7
  have fka_1_8 := blk_free ka_1 8
  have okb_1 := blk_older kb_1
  have ckb_1_0 : _ = some _ := blk_cell kb_1 0
  have ckb_1_1 : _ = some _ := blk_cell kb_1 1
  have ckb_1_2 : _ = some _ := blk_cell kb_1 2
  have ckb_1_3 : _ = some _ := blk_cell kb_1 3
  have ckb_1_4 : _ = some _ := blk_cell kb_1 4
  have ckb_1_5 : _ = some _ := blk_cell kb_1 5
  have ckb_1_6 : _ = some _ := blk_cell kb_1 6
  have ckb_1_7 : _ = some _ := blk_cell kb_1 7
  have ckb_1_8 : _ = some _ := blk_cell kb_1 8
  have fkb_1_0 := blk_free kb_1 0
  have fkb_1_1 := blk_free kb_1 1
  have fkb_1_2 := blk_free kb_1 2
  have fkb_1_3 := blk_free kb_1 3
  have fkb_1_4 := blk_free kb_1 4
  have fkb_1_5 := blk_free kb_1 5
  have fkb_1_6 := blk_free kb_1 6
  have fkb_1_7 := blk_free kb_1 7
  have fkb_1_8 := blk_free kb_1 8
  have he := cS a
  go_wp2_with fail
  refine wp_region_gw (by kernel_rfl) (by kernel_rfl) ?_
  repeat (go_big_quiet_step (fail))
  refine wpQuiet_nil ?_
  intro w1 hw1
  obtain ⟨q, rfl⟩ := hw1
  go_wp2_with fail
  exact bodyPost_ret (v := .tuple #[.pointer (some ⟨a, 0, none⟩), .pointer (some ⟨b, 0, none⟩)]) (by simp [results, Try.results122, go_sem]) rfl ⟨Or.inl ⟨rfl, by omega⟩, bBel⟩

end Go.Proofs.Ytfhhkabdeajieaa
