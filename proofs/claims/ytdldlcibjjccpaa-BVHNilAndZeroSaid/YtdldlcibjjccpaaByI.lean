/- Chapter 20: BVHNilAndZero. -/
import Derived.Test.YtdldlcibjjccpaaByH
import Derived.Deep.DeepCutAuto
import Derived.Deep.RegionHeld3
set_option linter.unusedVariables false
set_option linter.unusedSimpArgs false
namespace Go.Proofs.Ytdldlcibjjccpaa
open Go.RowKit Fx

set_option maxRecDepth 100000 in
set_option maxHeartbeats 8000000 in
theorem nilz_long (A : Option Addr) (cap : Nat) (l : List Opr) (w : World) (hl : 20 < (l.length : Int)) : Calls Try.prog 8 #[.slice A l.length cap] w fun e w' => e = .returned (.bool true) ∧ Below w.heap.size w w' := by
  have cE : ExC := example20_b
  go_enter Try.func8, Try.ntmps8
  go_wp2_with (go_at_call 10; refine Calls.mono (gw_at (cE _)) ?_; rintro e w1 ⟨rfl, qE, rfl⟩)
  go_ret
  exact ⟨rfl, bBel⟩

set_option maxRecDepth 100000 in
set_option maxHeartbeats 64000000 in
theorem nilz_main (A : Option Addr) (cap : Nat) (l : List Opr) (w : World) (ha : Oprs w A l) (hl : l.length ≤ 20) : Calls Try.prog 8 #[.slice A l.length cap] w fun e w' => e = .returned (.bool true) ∧ Below w.heap.size w w' := by
  have cE : ExC := example20_b
  obtain ⟨n, hn'⟩ : ∃ n, l.length = n := ⟨_, rfl⟩
  rw [hn'] at hl ⊢
  have hn : Hid (l.length = n) := hn'
  clear hn'
  have hni : ¬ (20 : Int) < (n : Int) := by omega
  go_enter Try.func8, Try.ntmps8
  go_upto_region 5 with fail
  refine wp_named ?_
  intro V hV
  have kt : blk V w.heap.size #[.pointer none, .map none] 67 := by rw [hV]; exact bBkn
  have kz : blk V (w.heap.size + 1) #[.slice none 0 0, .slice none 0 0, .bool false] 52 := by rw [hV]; exact bBkn
  have kn : blk V (w.heap.size + 1 + 1) #[.slice none 0 0, .slice none 0 0, .bool true] 52 := by rw [hV]; exact bBkn
  have hbV : Below w.heap.size w V := by rw [hV]; exact bBel
  clear hV
  have hT0 := new_tree kt
  have hR0 := new_ref kz
  have hN0 := new_ref kn
  clear kt kz kn
  have hz0 : w.heap.size + 1 < w.heap.size + 1 + 1 := by omega
  have hz1 : w.heap.size < w.heap.size + 1 := by omega
  generalize w.heap.size + 1 + 1 = mn at *
  generalize w.heap.size + 1 = mz at *
  go_wp2_with fail
  go_loopw [7] (fun i wr => ∃ k : Nat, k ≤ n ∧ i = .int .i64 (k : Int) ∧ ∃ L S R, TreeAt wr w.heap.size L S ∧ RefAt wr mz L false R ∧ RefAt wr mn [] true (fun k => k = mn) ∧ Hid (∀ k, S k → w.heap.size ≤ k ∧ k ≠ mn) ∧ Hid (∀ k, R k → w.heap.size ≤ k ∧ k ≠ mn) ∧ Hid (∀ k, S k → ¬ R k) ∧ Below w.heap.size w wr) (fun i _ => n - (intOf i).toNat)
  case atStart => exact ⟨0, by omega, rfl, [], _, _, hT0, hR0, hN0, (show ∀ k, k = w.heap.size → w.heap.size ≤ k ∧ k ≠ mn from fun k h => by omega), (show ∀ k, k = mz → w.heap.size ≤ k ∧ k ≠ mn from fun k h => by omega), (show ∀ k, k = w.heap.size → ¬ k = mz from fun k h => by omega), hbV⟩
  case round =>
    clear hT0 hR0 hN0 hbV
    obtain ⟨k, hk, rfl, L, S, R, hT, hR, hN, hS, hRb, hSR, hb⟩ := hrel
    have hszR := hb.size
    by_cases hkn : k < n
    · have hki : (k : Int) < (n : Int) := by omega
      have hkl : k < l.length := by have := hn.out; omega
      obtain ⟨b, off, rfl, hbl, hcell⟩ := oprs_open ha (by omega)
      obtain ⟨hik, hcell⟩ := hcell k hkl
      have cA := fun w' h => apply_b w.heap.size L S l[k] hik w' h
      have cR := fun w' h => rapply_b mz L R l[k] w' h
      have cA0 := fun w' => apply0_b l[k] w'
      have cR0 := fun w' h => rapply0_b mn (fun k => k = mn) l[k] w' h
      generalize l[k] = op at *
      obtain ⟨ok, oi, o0, o1, o2, o3⟩ := op
      dsimp only at hcell cA cR cA0 cR0
      unfold ApR at cA
      unfold RpR at cR
      unfold NlR at cA0 cR0
      have hIl : (apI L ⟨ok, oi, o0, o1, o2, o3⟩).length ≤ 1000000000 := by
        unfold apI
        have h1 := hT.len
        split
        · exact Nat.le_trans (hitL_len _ _) (by omega)
        · split
          · exact Nat.le_trans (hitL_len _ _) (by omega)
          · simp
      generalize nlN ⟨ok, oi, o0, o1, o2, o3⟩ = zN at *
      generalize apN L ⟨ok, oi, o0, o1, o2, o3⟩ = rN at *
      generalize apB L ⟨ok, oi, o0, o1, o2, o3⟩ = rB at *
      generalize apI L ⟨ok, oi, o0, o1, o2, o3⟩ = rI at *
      generalize apT L ⟨ok, oi, o0, o1, o2, o3⟩ = L2 at *
      obtain ⟨r0, r1, r2, r3⟩ := rB
      dsimp only at cA cR
      have hRl : Hid (∀ k, R k → k < wr.heap.size) := show ∀ k, R k → k < wr.heap.size from fun k hk => hR.lt k hk
      have hSl : Hid (∀ k, S k → k < wr.heap.size) := show ∀ k, S k → k < wr.heap.size from fun k hk => hT.lt k hk
      have hmnl : mn < wr.heap.size := hN.lt mn rfl
      clear hkl
      obtain ⟨o, d0, d1, d2, d3, d4, d5⟩ := hcell wr hb
      go_upto_region 9 with (go_at_call 12; refine Calls.mono (cA0 _) ?_; rintro e W1 ⟨⟨v1, rfl, ho1⟩, hB1⟩)
      refine wp_named ?_
      intro Y1 hY
      have kb1 : blk Y1 W1.heap.size #[.int .i64 0, .int .i64 0, .int .i64 0, .int .i64 0] 26 := by rw [hY]; exact bBkn
      have hbY : Below W1.heap.size W1 Y1 := by rw [hY]; exact bBel
      clear hY cA0
      have hzW1 := hB1.size
      have hY1 : Below wr.heap.size wr Y1 := hB1.trans (hbY.mono hzW1)
      have ho1Y : Hid (Y1.ownsRow wr.heap.size 3 1 v1 ([] : List Int).length (iv [])) := owns_below ho1.out hbY
      have hbw1 : Below w.heap.size w Y1 := hb.trans (hY1.mono hszR)
      have hT1 := hT.below hY1
      have hR1 := hR.below hY1
      have hN1 := hN.below hY1
      have hzY1 := hY1.size
      have hlt1 := blk_lt kb1
      clear hB1 hbY hY1 hT hR hN ho1 hb d0 d1 d2 d3 d4 d5 o
      generalize W1.heap.size = q1 at *
      obtain ⟨o, d0, d1, d2, d3, d4, d5⟩ := hcell Y1 hbw1
      go_upto_region 10 with (go_at_call 23; refine Calls.mono (cR0 _ (hN1.below bBel)) ?_; rintro e W2 ⟨⟨v2, rfl, ho2⟩, hB2⟩)
      refine wp_named ?_
      intro Y2 hY
      have kb2 : blk Y2 W2.heap.size #[.int .i64 0, .int .i64 0, .int .i64 0, .int .i64 0] 26 := by rw [hY]; exact bBkn
      have hbY : Below W2.heap.size W2 Y2 := by rw [hY]; exact bBel
      clear hY cR0
      have hzW2 := hB2.size
      have hY2 : Below Y1.heap.size Y1 Y2 := hB2.trans (hbY.mono hzW2)
      have ho2Y : Hid (Y2.ownsRow wr.heap.size 3 1 v2 ([] : List Int).length (iv [])) := owns_base (owns_below ho2.out hbY) hzY1
      have ho1Y2 : Hid (Y2.ownsRow wr.heap.size 3 1 v1 ([] : List Int).length (iv [])) := owns_below ho1Y.out hY2
      have kb1Y := blk_below hY2 kb1
      have hbw2 : Below w.heap.size w Y2 := hbw1.trans (hY2.mono (by omega))
      have hT2 := hT1.below hY2
      have hR2 := hR1.below hY2
      have hN2 := hN1.below hY2
      have hzY2 := hY2.size
      have hlt2 := blk_lt kb2
      clear hB2 hbY hY2 hT1 hR1 hN1 ho2 ho1Y kb1 hbw1 d0 d1 d2 d3 d4 d5 o
      generalize hq2 : W2.heap.size = q2 at *
      clear hq2
      obtain ⟨o, d0, d1, d2, d3, d4, d5⟩ := hcell Y2 hbw2
      go_upto_region 11 with (go_at_call 12; refine Calls.mono (cA _ (hT2.below bBel)) ?_; rintro e W3 ⟨v3, rfl, ho3, S3, hT3, hB3, hs3⟩)
      refine wp_named ?_
      intro Y3 hY
      have kb3 : blk Y3 W3.heap.size #[.int .i64 r0, .int .i64 r1, .int .i64 r2, .int .i64 r3] 26 := by rw [hY]; exact bBkn
      have hbY : Below W3.heap.size W3 Y3 := by rw [hY]; exact bBel
      clear hY cA
      have hzW3 : Y2.heap.size ≤ W3.heap.size := hB3.size
      have hzY3 := hbY.size
      have ho3Y : Hid (Y3.ownsRow wr.heap.size 3 1 v3 rI.length (iv rI)) := owns_base (owns_below ho3.out hbY) (by omega)
      have ho1Y3 : Hid (Y3.ownsRow wr.heap.size 3 1 v1 ([] : List Int).length (iv [])) := owns_below (owns_but ho1Y2.out hB3 fun g hg hs => by have := (World.ownsRow.lt ho1Y2.out g hg).1; have := hSl.out g hs; omega) hbY
      have ho2Y3 : Hid (Y3.ownsRow wr.heap.size 3 1 v2 ([] : List Int).length (iv [])) := owns_below (owns_but ho2Y.out hB3 fun g hg hs => by have := (World.ownsRow.lt ho2Y.out g hg).1; have := hSl.out g hs; omega) hbY
      have kb1Y3 := blk_below hbY (hB3.blk kb1Y fun hs => by have := hSl.out _ hs; omega)
      have kb2Y3 := blk_below hbY (hB3.blk kb2 fun hs => by have := hSl.out _ hs; omega)
      have hbw3 : Below w.heap.size w Y3 := (hbw2.trans (bel_of_but hB3 (fun k hk => (hS.out k hk).1) (by omega))).trans (hbY.mono (by omega))
      have hT3Y := hT3.below hbY
      have hR3 := (hR2.but hB3 fun k hr hs => hSR.out k hs hr).below hbY
      have hN3 := (hN2.but hB3 fun k hn hs => (hS.out k hs).2 hn).below hbY
      have hlt3 := blk_lt kb3
      have hS3 : Hid (∀ k, S3 k → (w.heap.size ≤ k ∧ k ≠ mn) ∧ ¬ R k) := show ∀ k, S3 k → (w.heap.size ≤ k ∧ k ≠ mn) ∧ ¬ R k from fun k hk => by
        rcases hs3 k hk with h | h
        · exact ⟨hS.out k h, hSR.out k h⟩
        · exact ⟨by omega, fun hr => by have := hRl.out k hr; omega⟩
      have hS3l : Hid (∀ k, S3 k → k < W3.heap.size) := show ∀ k, S3 k → k < W3.heap.size from fun k hk => hT3.lt k hk
      clear hB3 hbY hs3 hS hSR hSl hT2 hT3 hR2 hN2 ho3 ho1Y2 ho2Y kb1Y kb2 hbw2 d0 d1 d2 d3 d4 d5 o
      generalize hq3 : W3.heap.size = q3 at *
      clear hq3
      obtain ⟨o, d0, d1, d2, d3, d4, d5⟩ := hcell Y3 hbw3
      go_upto_region 12 with (go_at_call 23; refine Calls.mono (cR _ (hR3.below bBel)) ?_; rintro e W4 ⟨v4, rfl, ho4, R4, hR4, hB4, hr4⟩)
      refine wp_named ?_
      intro Z hY
      have kb4 : blk Z W4.heap.size #[.int .i64 r0, .int .i64 r1, .int .i64 r2, .int .i64 r3] 26 := by rw [hY]; exact bBkn
      have hbY : Below W4.heap.size W4 Z := by rw [hY]; exact bBel
      clear hY cR
      have hzW4 : Y3.heap.size ≤ W4.heap.size := hB4.size
      have hzY4 := hbY.size
      have p4 : Hid (Z.ownsRow wr.heap.size 3 1 v4 rI.length (iv rI)) := owns_base (owns_below ho4.out hbY) (by omega)
      have p1 : Hid (Z.ownsRow wr.heap.size 3 1 v1 ([] : List Int).length (iv [])) := owns_below (owns_but ho1Y3.out hB4 fun g hg hs => by have := (World.ownsRow.lt ho1Y3.out g hg).1; have := hRl.out g hs; omega) hbY
      have p2 : Hid (Z.ownsRow wr.heap.size 3 1 v2 ([] : List Int).length (iv [])) := owns_below (owns_but ho2Y3.out hB4 fun g hg hs => by have := (World.ownsRow.lt ho2Y3.out g hg).1; have := hRl.out g hs; omega) hbY
      have p3 : Hid (Z.ownsRow wr.heap.size 3 1 v3 rI.length (iv rI)) := owns_below (owns_but ho3Y.out hB4 fun g hg hs => by have := (World.ownsRow.lt ho3Y.out g hg).1; have := hRl.out g hs; omega) hbY
      have k1 := blk_below hbY (hB4.blk kb1Y3 fun hs => by have := hRl.out _ hs; omega)
      have k2 := blk_below hbY (hB4.blk kb2Y3 fun hs => by have := hRl.out _ hs; omega)
      have k3 := blk_below hbY (hB4.blk kb3 fun hs => by have := hRl.out _ hs; omega)
      have hbw4 : Below w.heap.size w Z := (hbw3.trans (bel_of_but hB4 (fun k hk => (hRb.out k hk).1) (by omega))).trans (hbY.mono (by omega))
      have hTZ := (hT3Y.but hB4 fun k hs hr => (hS3.out k hs).2 hr).below hbY
      have hRZ := hR4.below hbY
      have hNZ := (hN3.but hB4 fun k hn hr => (hRb.out k hr).2 hn).below hbY
      have hR4b : Hid (∀ k, R4 k → w.heap.size ≤ k ∧ k ≠ mn) := show ∀ k, R4 k → w.heap.size ≤ k ∧ k ≠ mn from fun k hk => by
        rcases hr4 k hk with h | h
        · exact hRb.out k h
        · omega
      have hSR4 : Hid (∀ k, S3 k → ¬ R4 k) := show ∀ k, S3 k → ¬ R4 k from fun k hk hr => by
        rcases hr4 k hr with h | h
        · exact (hS3.out k hk).2 h
        · have := hS3l.out k hk; omega
      have hS3b : Hid (∀ k, S3 k → w.heap.size ≤ k ∧ k ≠ mn) := show ∀ k, S3 k → w.heap.size ≤ k ∧ k ≠ mn from fun k hk => (hS3.out k hk).1
      clear hB4 hbY hr4 hS3 hS3l hRl hRb hT3Y hR3 hN3 hR4 ho4 ho1Y3 ho2Y3 ho3Y kb1Y3 kb2Y3 kb3 hbw3 d0 d1 d2 d3 d4 d5 o hcell
      generalize hq4 : W4.heap.size = q4 at *
      clear hq4
      have ok1 := blk_older k1
      have ck1_0 : _ = some _ := blk_cell k1 0
      have ck1_1 : _ = some _ := blk_cell k1 1
      have ck1_2 : _ = some _ := blk_cell k1 2
      have ck1_3 : _ = some _ := blk_cell k1 3
      have fk1_0 := blk_free k1 0
      have fk1_1 := blk_free k1 1
      have fk1_2 := blk_free k1 2
      have fk1_3 := blk_free k1 3
      have ok2 := blk_older k2
      have ck2_0 : _ = some _ := blk_cell k2 0
      have ck2_1 : _ = some _ := blk_cell k2 1
      have ck2_2 : _ = some _ := blk_cell k2 2
      have ck2_3 : _ = some _ := blk_cell k2 3
      have fk2_0 := blk_free k2 0
      have fk2_1 := blk_free k2 1
      have fk2_2 := blk_free k2 2
      have fk2_3 := blk_free k2 3
      have ok3 := blk_older k3
      have ck3_0 : _ = some _ := blk_cell k3 0
      have ck3_1 : _ = some _ := blk_cell k3 1
      have ck3_2 : _ = some _ := blk_cell k3 2
      have ck3_3 : _ = some _ := blk_cell k3 3
      have fk3_0 := blk_free k3 0
      have fk3_1 := blk_free k3 1
      have fk3_2 := blk_free k3 2
      have fk3_3 := blk_free k3 3
      have okb4 := blk_older kb4
      have ckb4_0 : _ = some _ := blk_cell kb4 0
      have ckb4_1 : _ = some _ := blk_cell kb4 1
      have ckb4_2 : _ = some _ := blk_cell kb4 2
      have ckb4_3 : _ = some _ := blk_cell kb4 3
      have fkb4_0 := blk_free kb4 0
      have fkb4_1 := blk_free kb4 1
      have fkb4_2 := blk_free kb4 2
      have fkb4_3 := blk_free kb4 3
      go_wp2_with (first
          | (go_at_call 18; (with_reducible show Calls _ _ #[v1, v2] _ _); refine Calls.mono (gw_at (eqints_b _ _ _ _ [] [] _ (owns_below p1.out bBel) (owns_below p2.out bBel) true (by simp) (by simp))) ?_; rintro e w1 ⟨rfl, qe, rfl⟩)
          | (go_at_call 18; (with_reducible show Calls _ _ #[v3, v4] _ _); refine Calls.mono (gw_at (eqints_b _ _ _ _ rI rI _ (owns_below p3.out bBel) (owns_below p4.out bBel) true (by simp) (by omega))) ?_; rintro e w1 ⟨rfl, qf, rfl⟩))
      refine ⟨⟨k + 1, by omega, by go_num, L2, S3, R4, hTZ.below bBel, hRZ.below bBel, hNZ.below bBel, hS3b, hR4b, hSR4, bBel⟩, by (try go_num); simp [intOf]; (try omega)⟩
    · obtain rfl : k = n := by omega
      obtain ⟨x1, x2, km, m1, -, -, -⟩ := hR.mem
      have l1 := fun ty W => row_len u_ints m1 ty W
      have hcellZ : ∀ w', Below wr.heap.size wr w' → Below wr.heap.size wr w' ∧ w'.cell? ⟨mz, 0, none⟩ = some x1 := fun w' h => ⟨h, blk_cell (blk_below h km) 0⟩
      have cN : ∀ w', TreeAt w' w.heap.size L S → Calls Try.prog 17 #[.pointer (some ⟨w.heap.size, 0, none⟩)] w' fun e w1 => e = .returned (.int .i64 (L.length : Int)) ∧ Below w'.heap.size w' w1 := fun w' h => len_b _ L S w' h
      clear hS hRb hSR hN hR m1 km
      generalize L.length = nL at *
      go_upto_region 14 with fail
      obtain ⟨-, f0⟩ := hcellZ wr (Below.refl _ _)
      have omz : older mz wr = true := older_of_cell f0
      go_region_held3 (fun w' => Below wr.heap.size wr w' ∧ w'.cell? ⟨mz, 0, none⟩ = some x1) (first | (refine hcellZ _ ?_; exact bBel)) (first
        | (go_at_call 17; (with_reducible show Calls _ _ #[.pointer none] _ _); refine Calls.mono (gw_at (len0_b _)) ?_; rintro e w1 ⟨rfl, qm, rfl⟩)
        | (go_at_call 17; refine Calls.mono (gw_at (cN _ (hT.below bBel))) ?_; rintro e w1 ⟨rfl, qn, rfl⟩)
        | (go_at_call 29; refine Calls.mono (gw_at (height0_b _)) ?_; rintro e w1 ⟨rfl, qh, rfl⟩)
        | (go_at_call 31; refine Calls.mono (gw_at (clone0_b _)) ?_; rintro e w1 ⟨rfl, qc, rfl⟩)
        | (go_at_call 22; refine Calls.mono (gw_at (pairs0_b _)) ?_; rintro e w1 ⟨rfl, qp, rfl⟩)
        | (go_at_call 10; refine Calls.mono (gw_at (cE _)) ?_; rintro e w1 ⟨rfl, qE, rfl⟩))
      all_goals
        go_wp2_with fail
      all_goals
        go_ret
        exact ⟨rfl, bBel⟩

theorem walk_BVHNilAndZero (A : Option Addr) (cap : Nat) (l : List Opr) (w : World) (ha : Oprs w A l) : Calls Try.prog 8 #[.slice A l.length cap] w fun e w' => e = .returned (.bool true) ∧ Below w.heap.size w w' := by
  by_cases h : l.length ≤ 20
  · exact nilz_main A cap l w ha h
  · exact nilz_long A cap l w (by omega)

end Go.Proofs.Ytdldlcibjjccpaa
