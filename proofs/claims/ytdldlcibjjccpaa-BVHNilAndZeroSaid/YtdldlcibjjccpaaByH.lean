/- Chapter 20: BVHOperations. -/
import Derived.Test.YtdldlcibjjccpaaByG
import Derived.Test.YtdldlcibjjccpaaBwE
import Derived.Deep.DeepCutAuto
import Derived.Deep.RegionHeld3
set_option linter.unusedVariables false
set_option linter.unusedSimpArgs false
namespace Go.Proofs.Ytdldlcibjjccpaa
open Go.RowKit Fx

set_option maxRecDepth 100000 in
set_option maxHeartbeats 8000000 in
theorem ops_long (A : Option Addr) (cap : Nat) (l : List Opr) (w : World) (hl : 60 < (l.length : Int)) : Calls Try.prog 4 #[.slice A l.length cap] w fun e w' => e = .returned (.bool true) ∧ Below w.heap.size w w' := by
  have cE : ExC := example20_b
  go_enter Try.func4, Try.ntmps4
  go_wp2_with (go_at_call 10; refine Calls.mono (gw_at (cE _)) ?_; rintro e w1 ⟨rfl, qE, rfl⟩)
  go_ret
  exact ⟨rfl, bBel⟩

theorem bx_cells {w : World} {b : Nat} {x0 y0 x1 y1 : Value} {t : TypeId} (k : blk w b #[x0, y0, x1, y1] t) : w.cell? ⟨b, 0, none⟩ = some x0 ∧ w.cell? ⟨b, 1, none⟩ = some y0 ∧ w.cell? ⟨b, 2, none⟩ = some x1 ∧ w.cell? ⟨b, 3, none⟩ = some y1 := ⟨blk_cell k 0, blk_cell k 1, blk_cell k 2, blk_cell k 3⟩

set_option maxRecDepth 100000 in
set_option maxHeartbeats 64000000 in
theorem ops_main (A : Option Addr) (cap : Nat) (l : List Opr) (w : World) (ha : Oprs w A l) (hl : l.length ≤ 60) : Calls Try.prog 4 #[.slice A l.length cap] w fun e w' => e = .returned (.bool true) ∧ Below w.heap.size w w' := by
  have cE : ExC := example20_b
  obtain ⟨n, hn'⟩ : ∃ n, l.length = n := ⟨_, rfl⟩
  rw [hn'] at hl ⊢
  have hn : Hid (l.length = n) := hn'
  clear hn'
  have hni : ¬ (60 : Int) < (n : Int) := by omega
  go_enter Try.func4, Try.ntmps4
  go_upto_region 4 with (go_at_call 11; with_reducible_and_instances refine Calls.mono (new_b _) ?_; rintro e W0 ⟨rfl, kt0, hb0⟩)
  refine wp_named ?_
  intro V hV
  have hlt0 := blk_lt kt0
  have hbV0 : Below W0.heap.size W0 V := by rw [hV]; exact bBel
  have km : blk V W0.heap.size #[.slice none 0 0, .slice none 0 0, .bool false] 52 := by rw [hV]; exact bBkn
  clear hV
  have hz0 := hb0.size
  have hbV : Below w.heap.size w V := hb0.trans (hbV0.mono hz0)
  have hT0 := (new_tree kt0).below hbV0
  have hR0 := new_ref km
  clear kt0 km hb0 hbV0
  generalize W0.heap.size = mb at *
  go_wp2_with fail
  go_loopw [5] (fun i wr => ∃ k : Nat, k ≤ n ∧ i = .int .i64 (k : Int) ∧ ∃ L S R, TreeAt wr w.heap.size L S ∧ RefAt wr mb L false R ∧ Hid (∀ k, S k → w.heap.size ≤ k) ∧ Hid (∀ k, R k → w.heap.size ≤ k) ∧ Hid (∀ k, S k → ¬ R k) ∧ Below w.heap.size w wr) (fun i _ => n - (intOf i).toNat)
  case atStart => exact ⟨0, by omega, rfl, [], _, _, hT0, hR0, (show ∀ k, k = w.heap.size → w.heap.size ≤ k from fun k h => by omega), (show ∀ k, k = mb → w.heap.size ≤ k from fun k h => by omega), (show ∀ k, k = w.heap.size → ¬ k = mb from fun k h => by omega), hbV⟩
  case round =>
    clear hT0 hR0 hbV
    obtain ⟨k, hk, rfl, L, S, R, hT, hR, hS, hRb, hSR, hb⟩ := hrel
    have hszR := hb.size
    by_cases hkn : k < n
    · have hki : (k : Int) < (n : Int) := by omega
      have hkl : k < l.length := by have := hn.out; omega
      obtain ⟨b, off, rfl, hbl, hcell⟩ := oprs_open ha (by omega)
      obtain ⟨hik, hcell⟩ := hcell k hkl
      have cA := fun w' h => apply_b w.heap.size L S l[k] hik w' h
      have cR := fun w' h => rapply_b mb L R l[k] w' h
      generalize l[k] = op at *
      obtain ⟨ok, oi, o0, o1, o2, o3⟩ := op
      dsimp only at hcell cA cR
      unfold ApR at cA
      unfold RpR at cR
      have hIl : (apI L ⟨ok, oi, o0, o1, o2, o3⟩).length ≤ 1000000000 := by
        unfold apI
        have h1 := hT.len
        split
        · exact Nat.le_trans (hitL_len _ _) (by omega)
        · split
          · exact Nat.le_trans (hitL_len _ _) (by omega)
          · simp
      generalize apN L ⟨ok, oi, o0, o1, o2, o3⟩ = rN at *
      generalize apB L ⟨ok, oi, o0, o1, o2, o3⟩ = rB at *
      generalize apI L ⟨ok, oi, o0, o1, o2, o3⟩ = rI at *
      generalize apT L ⟨ok, oi, o0, o1, o2, o3⟩ = L2 at *
      obtain ⟨r0, r1, r2, r3⟩ := rB
      dsimp only at cA cR
      clear hkl
      obtain ⟨o, d0, d1, d2, d3, d4, d5⟩ := hcell wr hb
      go_upto_region 8 with (go_at_call 12; refine Calls.mono (cA _ (hT.below bBel)) ?_; rintro e W2 ⟨v1, rfl, ho1, S2, hT2, hB2, hs2⟩)
      refine wp_named ?_
      intro Y hY
      have kb1 : blk Y W2.heap.size #[.int .i64 r0, .int .i64 r1, .int .i64 r2, .int .i64 r3] 26 := by rw [hY]; exact bBkn
      have hbY : Below W2.heap.size W2 Y := by rw [hY]; exact bBel
      clear hY cA
      have hz2 : wr.heap.size ≤ W2.heap.size := hB2.size
      have hb2 : Below w.heap.size w W2 := hb.trans (bel_of_but hB2 (fun k hk => hS.out k hk) (by omega))
      have hbwY : Below w.heap.size w Y := hb2.trans (hbY.mono (by omega))
      have hzY := hbY.size
      have hTY := hT2.below hbY
      have hRY := (hR.but hB2 (fun k hk hs => hSR.out k hs hk)).below hbY
      have hoY : Hid (Y.ownsRow wr.heap.size 3 1 v1 rI.length (iv rI)) := owns_below ho1.out hbY
      have hRl : Hid (∀ k, R k → k < wr.heap.size) := show ∀ k, R k → k < wr.heap.size from fun k hk => hR.lt k hk
      have hS2 : Hid (∀ k, S2 k → w.heap.size ≤ k ∧ ¬ R k) := show ∀ k, S2 k → w.heap.size ≤ k ∧ ¬ R k from fun k hk => by
        rcases hs2 k hk with h | h
        · exact ⟨hS.out k h, hSR.out k h⟩
        · exact ⟨by omega, fun hr => by have := hRl.out k hr; omega⟩
      have hS2l : Hid (∀ k, S2 k → k < W2.heap.size) := show ∀ k, S2 k → k < W2.heap.size from fun k hk => hT2.lt k hk
      obtain ⟨oY, e0, e1, e2, e3, e4, e5⟩ := hcell Y hbwY
      clear hcell hs2 hS hSR hT hR hT2 ho1 hB2 hb2 d0 d1 d2 d3 d4 d5 o hb
      go_upto_region 9 with (go_at_call 23; refine Calls.mono (cR _ (hRY.below bBel)) ?_; rintro e W3 ⟨v2, rfl, ho2, R2, hR2, hB3, hr2⟩)
      refine wp_named ?_
      intro Z hZ
      have kb2 : blk Z W3.heap.size #[.int .i64 r0, .int .i64 r1, .int .i64 r2, .int .i64 r3] 26 := by rw [hZ]; exact bBkn
      have hbZ : Below W3.heap.size W3 Z := by rw [hZ]; exact bBel
      clear hZ cR e0 e1 e2 e3 e4 e5 oY
      have hz3 : Y.heap.size ≤ W3.heap.size := hB3.size
      have hzZ := hbZ.size
      have hbwZ : Below w.heap.size w Z := (hbwY.trans (bel_of_but hB3 (fun k hk => hRb.out k hk) (by omega))).trans (hbZ.mono (by omega))
      have hTZ := (hTY.but hB3 (fun k hk hr => (hS2.out k hk).2 hr)).below hbZ
      have hRZ := hR2.below hbZ
      have kb1Z := blk_below hbZ (hB3.blk kb1 (fun hr => by have := hRl.out _ hr; omega))
      have ho1Z : Hid (Z.ownsRow wr.heap.size 3 1 v1 rI.length (iv rI)) := owns_below (owns_but hoY.out hB3 fun g hg hr => by have := (World.ownsRow.lt hoY.out g hg).1; have := hRl.out g hr; omega) hbZ
      have ho2Z : Hid (Z.ownsRow Y.heap.size 3 1 v2 rI.length (iv rI)) := owns_below ho2.out hbZ
      have hltY := blk_lt kb1
      have hR2b : Hid (∀ k, R2 k → w.heap.size ≤ k) := show ∀ k, R2 k → w.heap.size ≤ k from fun k hk => by
        rcases hr2 k hk with h | h
        · exact hRb.out k h
        · omega
      have hSR2 : Hid (∀ k, S2 k → ¬ R2 k) := show ∀ k, S2 k → ¬ R2 k from fun k hk hr => by
        rcases hr2 k hr with h | h
        · exact (hS2.out k hk).2 h
        · have := hS2l.out k hk; omega
      have hS2b : Hid (∀ k, S2 k → w.heap.size ≤ k) := show ∀ k, S2 k → w.heap.size ≤ k from fun k hk => (hS2.out k hk).1
      clear hS2 hS2l hr2 hRl hRb hbwY hTY hRY hR2 hB3 hbZ hoY ho2 kb1 hbY
      generalize hq1 : W2.heap.size = q1 at *
      generalize hq3 : W3.heap.size = q3 at *
      clear hq1 hq3
      obtain ⟨x1, x2, kmZ, m1, -, -, -⟩ := hRZ.mem
      have l1 := fun ty W => row_len u_ints m1 ty W
      have hcellZ : ∀ w', Below Z.heap.size Z w' → Below Z.heap.size Z w' ∧ (w'.cell? ⟨q1, 0, none⟩ = some (.int .i64 r0) ∧ w'.cell? ⟨q1, 1, none⟩ = some (.int .i64 r1) ∧ w'.cell? ⟨q1, 2, none⟩ = some (.int .i64 r2) ∧ w'.cell? ⟨q1, 3, none⟩ = some (.int .i64 r3)) ∧ (w'.cell? ⟨q3, 0, none⟩ = some (.int .i64 r0) ∧ w'.cell? ⟨q3, 1, none⟩ = some (.int .i64 r1) ∧ w'.cell? ⟨q3, 2, none⟩ = some (.int .i64 r2) ∧ w'.cell? ⟨q3, 3, none⟩ = some (.int .i64 r3)) ∧ w'.cell? ⟨mb, 0, none⟩ = some x1 := fun w' h => ⟨h, bx_cells (blk_below h kb1Z), bx_cells (blk_below h kb2), blk_cell (blk_below h kmZ) 0⟩
      have cN : ∀ w', TreeAt w' w.heap.size L2 S2 → Calls Try.prog 17 #[.pointer (some ⟨w.heap.size, 0, none⟩)] w' fun e w1 => e = .returned (.int .i64 (L2.length : Int)) ∧ Below w'.heap.size w' w1 := fun w' h => len_b _ L2 S2 w' h
      clear m1 kb1Z kb2 kmZ
      generalize L2.length = nL at *
      go_cut [68] (fun g wx => g = .bool false ∧ Below Z.heap.size Z wx)
      case first =>
        obtain ⟨-, ⟨d0, d1, d2, d3⟩, ⟨e0, e1, e2, e3⟩, f0⟩ := hcellZ Z (Below.refl _ _)
        have oq1 : older q1 Z = true := older_of_cell d0
        have oq3 : older q3 Z = true := older_of_cell e0
        have omb : older mb Z = true := older_of_cell f0
        go_region_held3 (fun w' => Below Z.heap.size Z w' ∧ (w'.cell? ⟨q1, 0, none⟩ = some (.int .i64 r0) ∧ w'.cell? ⟨q1, 1, none⟩ = some (.int .i64 r1) ∧ w'.cell? ⟨q1, 2, none⟩ = some (.int .i64 r2) ∧ w'.cell? ⟨q1, 3, none⟩ = some (.int .i64 r3)) ∧ (w'.cell? ⟨q3, 0, none⟩ = some (.int .i64 r0) ∧ w'.cell? ⟨q3, 1, none⟩ = some (.int .i64 r1) ∧ w'.cell? ⟨q3, 2, none⟩ = some (.int .i64 r2) ∧ w'.cell? ⟨q3, 3, none⟩ = some (.int .i64 r3)) ∧ w'.cell? ⟨mb, 0, none⟩ = some x1) (first | (refine hcellZ _ ?_; exact bBel)) (first
          | (go_at_call 17; refine Calls.mono (gw_at (cN _ (hTZ.below bBel))) ?_; rintro e w1 ⟨rfl, qm, rfl⟩)
          | (go_at_call 18; refine Calls.mono (gw_at (eqints_b _ _ _ _ rI rI _ (owns_below ho1Z.out bBel) (owns_below ho2Z.out bBel) true (by simp) (by omega))) ?_; rintro e w1 ⟨rfl, qe, rfl⟩))
        all_goals
          go_wp2_with fail
        all_goals
          go_meet
          exact ⟨rfl, bBel⟩
      case rest =>
      obtain ⟨rfl, hbU⟩ := hcut
      generalize wc = U at *
      have hTU := hTZ.below hbU
      have hRU := hRZ.below hbU
      have hbwU : Below w.heap.size w U := hbwZ.trans (hbU.mono hbwZ.size)
      clear hTZ hRZ hbwZ hcellZ cN l1
      go_wp2_with fail
      exact ⟨⟨k + 1, by omega, by go_num, L2, S2, R2, hTU, hRU, hS2b, hR2b, hSR2, hbwU⟩, by (try go_num); simp [intOf]; (try omega)⟩
    · obtain rfl : k = n := by omega
      have hLl := hT.len
      have cP : ∀ w', TreeAt w' w.heap.size L S → Calls Try.prog 22 #[.pointer (some ⟨w.heap.size, 0, none⟩)] w' fun e w1 => (∃ v, e = .returned v ∧ w1.ownsRow w'.heap.size 41 2 v (prL L).length (pv (prL L))) ∧ Below w'.heap.size w' w1 := fun w' h => pairs_b _ L S w' h
      have cR : ∀ w', RefAt w' mb L false R → Calls Try.prog 24 #[.pointer (some ⟨mb, 0, none⟩)] w' fun e w1 => (∃ v, e = .returned v ∧ w1.ownsRow w'.heap.size 41 2 v (prL L).length (pv (prL L))) ∧ Below w'.heap.size w' w1 := fun w' h => rpairs_b _ L false R w' h
      have hPl : (prL L).length ≤ 1000000000 := by
        have h1 := prT_len L L.length
        rw [prT_all] at h1
        have h2 : L.length * L.length ≤ 4096 * 4096 := Nat.mul_le_mul hLl hLl
        omega
      generalize prL L = PP at *
      clear hS hRb hSR hLl
      go_wp2_with (first
        | (go_at_call 22; refine Calls.mono (gw_ex (cP _ (hT.below bBel))) ?_; rintro e w1 ⟨⟨v3, rfl, ho3⟩, q3, rfl⟩)
        | (go_at_call 24; refine Calls.mono (gw_ex (cR _ (hR.below bBel))) ?_; rintro e w1 ⟨⟨v4, rfl, ho4⟩, q4, rfl⟩)
        | (go_at_call 21; refine Calls.mono (gw_at (eqpairs_b _ _ _ _ PP PP _ (owns_below ho3 bBel) (owns_below ho4 bBel) true (by simp) (by omega))) ?_; rintro e w1 ⟨rfl, qf, rfl⟩)
        | (go_at_call 10; refine Calls.mono (gw_at (cE _)) ?_; rintro e w1 ⟨rfl, qE, rfl⟩))
      go_ret
      exact ⟨rfl, bBel⟩

theorem walk_BVHOperations (A : Option Addr) (cap : Nat) (l : List Opr) (w : World) (ha : Oprs w A l) : Calls Try.prog 4 #[.slice A l.length cap] w fun e w' => e = .returned (.bool true) ∧ Below w.heap.size w w' := by
  by_cases h : l.length ≤ 60
  · exact ops_main A cap l w ha h
  · exact ops_long A cap l w (by omega)

end Go.Proofs.Ytdldlcibjjccpaa
