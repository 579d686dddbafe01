import Derived.Test.YtdldlcibjjccpaaBwH
import Derived.Deep.DeepCutAuto
set_option linter.unusedVariables false
set_option linter.unusedSimpArgs false
namespace Go.Proofs.Ytdldlcibjjccpaa
open Go.RowKit Fx

theorem insC_full {L : Bxs} {i : Int} {x : Bx} (hv : x.val = true) (hl : look L i = none) (hn : L.length = 4096) : insC L i x = 9 := by
  unfold insC; rw [hv, hl, hn]; simp
theorem insC_bad {L : Bxs} {i : Int} {x : Bx} (hv : x.val = false) : insC L i x = 2 := by unfold insC; rw [hv]; simp
theorem insT_no {L : Bxs} {i : Int} {x : Bx} (h : insC L i x ≠ 0) : insT L i x = L := by unfold insT; rw [if_neg h]

set_option maxRecDepth 100000 in
set_option maxHeartbeats 8000000 in
theorem cap_in (id x0 y0 x1 y1 : Int) (h0 : 0 ≤ id) (h1 : id < 4096) (w : World) : Calls Try.prog 9 #[.int .i64 id, .agg #[.int .i64 x0, .int .i64 y0, .int .i64 x1, .int .i64 y1]] w fun e w' => e = .returned (.bool true) ∧ Below w.heap.size w w' := by
  have cE : ExC := example20_b
  go_enter Try.func9, Try.ntmps9
  go_wp2_with (go_at_call 10; refine Calls.mono (gw_at (cE _)) ?_; rintro e w1 ⟨rfl, qE, rfl⟩)
  go_ret
  exact ⟨rfl, bBel⟩

set_option maxRecDepth 100000 in
set_option maxHeartbeats 8000000 in
theorem cap_bad (id x0 y0 x1 y1 : Int) (hD : val4 x0 y0 x1 y1 = false) (hg : (0 ≤ id ∧ ¬ id < 4096) ∨ ¬ 0 ≤ id) (w : World) : Calls Try.prog 9 #[.int .i64 id, .agg #[.int .i64 x0, .int .i64 y0, .int .i64 x1, .int .i64 y1]] w fun e w' => e = .returned (.bool true) ∧ Below w.heap.size w w' := by
  have cE : ExC := example20_b
  have cV := fun w => xval_b x0 y0 x1 y1 w
  simp only [hD] at cV
  clear hD
  rcases hg with ⟨h0, h1⟩ | h0
  all_goals
    go_enter Try.func9, Try.ntmps9
    go_wp2_with (first | (go_at_call 32; refine Calls.mono (gw_at (cV _)) ?_; rintro e w1 ⟨rfl, qV, rfl⟩) | (go_at_call 10; refine Calls.mono (gw_at (cE _)) ?_; rintro e w1 ⟨rfl, qE, rfl⟩))
    go_ret
    exact ⟨rfl, bBel⟩

set_option maxRecDepth 100000 in
set_option maxHeartbeats 16000000 in
theorem cap_main (id x0 y0 x1 y1 : Int) (hi : i64k id) (hD : val4 x0 y0 x1 y1 = true) (hg : (0 ≤ id ∧ ¬ id < 4096) ∨ ¬ 0 ≤ id) (w : World) : Calls Try.prog 9 #[.int .i64 id, .agg #[.int .i64 x0, .int .i64 y0, .int .i64 x1, .int .i64 y1]] w fun e w' => e = .returned (.bool true) ∧ Below w.heap.size w w' := by
  have cE : ExC := example20_b
  have cV := fun w => xval_b x0 y0 x1 y1 w
  simp only [hD] at cV
  have hv : Hid ((⟨x0, y0, x1, y1⟩ : Bx).val = true) := hD
  have hg2 : Hid ((0 ≤ id ∧ ¬ id < 4096) ∨ ¬ 0 ≤ id) := hg
  have hi : Hid (i64k id) := hi
  clear hD
  rcases hg with ⟨h0, h1⟩ | h0
  all_goals
    go_enter Try.func9, Try.ntmps9
    go_upto_region 3 with (first | (go_at_call 32; refine Calls.mono (gw_at (cV _)) ?_; rintro e w1 ⟨rfl, qV, rfl⟩))
    refine wp_named ?_
    intro W hW
    have kb : blk W w.heap.size #[.int .i64 x0, .int .i64 y0, .int .i64 x1, .int .i64 y1] 26 := by rw [hW]; exact bBkn
    have hbW : Below w.heap.size w W := by rw [hW]; exact bBel
    clear hW cV
    have hlt := blk_lt kb
    have hszW := hbW.size
    clear h0
    try clear h1
    go_upto_region 4 with (go_at_call 11; with_reducible_and_instances refine Calls.mono (new_b _) ?_; rintro e W0 ⟨rfl, kt, hb0⟩; have hT0 := new_tree kt; clear kt)
    go_wp2_with fail
    go_loopw [6] (fun i wr => ∃ k : Nat, k ≤ 4096 ∧ i = .int .i64 (k : Int) ∧ ∃ L S, Hid (Rg L 0 k) ∧ TreeAt wr W.heap.size L S ∧ Hid (∀ k, S k → W.heap.size ≤ k) ∧ Below W.heap.size W wr) (fun i _ => 4096 - (intOf i).toNat)
    case atStart => exact ⟨0, by omega, rfl, _, _, rg_nil, hT0.below bBel, (show ∀ k, k = W.heap.size → W.heap.size ≤ k from fun k h => by omega), bBel⟩
    case round =>
      clear hT0 hb0
      obtain ⟨k, hk, rfl, L, S, hG, hT, hS, hb⟩ := hrel
      have hszR := hb.size
      by_cases hkn : k < 4096
      · have hki : (k : Int) < 4096 := by omega
        obtain ⟨m, hm⟩ : ∃ m, k % 64 = m := ⟨_, rfl⟩
        have hm1 : m < 64 := by omega
        have e1 : (k : Int).tmod 64 = (m : Int) := by rw [Int.tmod_eq_emod_of_nonneg (by omega)]; omega
        have e2 : (k : Int) % 64 = (m : Int) := by omega
        clear hm
        have hI0 : insC L (k : Int) ⟨m, 0, m + 1, 1⟩ = 0 := insC_ok (ub_val m (by omega) (by omega)) (rg_look hG.out _ (by omega)) (by have := hG.out.1; omega)
        have cI := ins_c W.heap.size L (insL L (k : Int) ⟨m, 0, m + 1, 1⟩) (k : Int) m 0 (m + 1) 1 0 (by unfold i64k; omega) hI0 (insT_ok hI0)
        have hG2 : Hid (Rg (insL L (k : Int) ⟨m, 0, m + 1, 1⟩) 0 (k + 1)) := rg_ins hG.out _
        have cU := fun w => ubox_b m (by omega) (by omega) w
        clear hI0 hG
        generalize insL L (k : Int) ⟨m, 0, m + 1, 1⟩ = L2 at *
        go_wp2_with (first | (go_at_call 28; refine Calls.mono (gw_at (cU _)) ?_; rintro e w1 ⟨rfl, q, rfl⟩) | (go_at_call 25; refine turn_useB cI (hT.below bBel) (V := W) bBel hS ?_; intro W2 S2 hT2 hS2 hb2))
        refine ⟨⟨k + 1, by omega, by go_num, L2, S2, hG2, hT2, hS2, bBel⟩, by (try go_num); simp [intOf]; (try omega)⟩
      · obtain rfl : k = 4096 := by omega
        have hlen : L.length = 4096 := by have := hG.out.1; omega
        have hno : look L id = none := rg_look hG.out _ (by have := hg2.out; omega)
        have c1 : insC L id ⟨x0, y0, x1, y1⟩ = 9 := insC_full hv.out hno hlen
        have c2 : insC L id ⟨1, 0, 0, 0⟩ = 2 := insC_bad (by decide)
        have cI1 := ins_c W.heap.size L L id x0 y0 x1 y1 9 hi.out c1 (insT_no (by omega))
        have cI2 := ins_c W.heap.size L L id 1 0 0 0 2 hi.out c2 (insT_no (by omega))
        have hG2 := rg_rem hG.out hT.srt (by decide)
        have c7 : (look L 7).isSome = true := rg_look_in hG.out 7 (by omega)
        have cR := rem_c W.heap.size L (remL L 7) 7 true (by unfold i64k; omega) c7 rfl
        have hno2 : look (remL L 7) id = none := look_none.2 fun e he => look_none.1 hno e (mem_remL.1 he).1
        have hlen2 : (remL L 7).length < 4096 := by
          obtain ⟨⟨j, x⟩, he, hh⟩ := (hG.out.2.2 7).2 (by omega)
          dsimp only at hh
          subst hh
          have h1 := (remL_perm hT.srt he).length_eq
          rw [List.length_cons] at h1; omega
        have c3 : insC (remL L 7) id ⟨x0, y0, x1, y1⟩ = 0 := insC_ok hv.out hno2 hlen2
        have cI3 := ins_c W.heap.size (remL L 7) (insL (remL L 7) id ⟨x0, y0, x1, y1⟩) id x0 y0 x1 y1 0 hi.out c3 (insT_ok c3)
        clear c1 c2 c3 c7 hno hno2 hlen2 hG2 hG
        generalize insL (remL L 7) id ⟨x0, y0, x1, y1⟩ = L3 at *
        generalize remL L 7 = L2 at *
        have kb1 := blk_low kb hb hlt
        have okb1 := blk_older kb1
        have ckb1_0 : _ = some _ := blk_cell kb1 0
        have ckb1_1 : _ = some _ := blk_cell kb1 1
        have ckb1_2 : _ = some _ := blk_cell kb1 2
        have ckb1_3 : _ = some _ := blk_cell kb1 3
        have fkb1_0 := blk_free kb1 0
        have fkb1_1 := blk_free kb1 1
        have fkb1_2 := blk_free kb1 2
        have fkb1_3 := blk_free kb1 3
        go_upto_region 10 with (first | (go_at_call 25; (with_reducible show Calls _ _ #[_, _, .agg #[.int .i64 1, _, _, _]] _ _); refine turn_useB cI2 (hT2.below bBel) (V := W) bBel hS2 ?_; intro W3 S3 hT3 hS3 hb3; have hsz3 := hb3.size) | (go_at_call 25; refine turn_useB cI1 (hT.below bBel) (V := W) bBel hS ?_; intro W2 S2 hT2 hS2 hb2; have hsz2 := hb2.size))
        have cN : ∀ w S, TreeAt w W.heap.size L S → Calls Try.prog 17 #[.pointer (some ⟨W.heap.size, 0, none⟩)] w fun e w' => e = .returned (.int .i64 4096) ∧ Below w.heap.size w w' := fun w S h => by
          have := len_b _ L S w h
          rw [hlen] at this; exact this
        have cH : ∀ w S, TreeAt w W.heap.size L S → Calls Try.prog 29 #[.pointer (some ⟨W.heap.size, 0, none⟩)] w fun e w' => (∃ H, e = .returned (.int .i64 H) ∧ Hid (HtOk 4096 H)) ∧ Below w.heap.size w w' := fun w S h => by
          have := height_b _ L S w h
          rw [hlen] at this; exact this
        have cM : ∀ w, Calls Try.prog 30 #[.int .i64 4096] w fun e w' => (∃ d : Nat, e = .returned (.int .i64 (2 * (d : Int) + 1)) ∧ Hid (4096 < 2 ^ d)) ∧ Below w.heap.size w w' := fun w => maxheight_b 4096 (by decide) w
        clear hlen
        go_wp2_with (first | (go_at_call 17; refine Calls.mono (gw_at (cN _ _ (hT3.below bBel))) ?_; rintro e w1 ⟨rfl, q, rfl⟩) | (go_at_call 29; refine Calls.mono (gw_ex (cH _ _ (hT3.below bBel))) ?_; rintro e w1 ⟨⟨H, rfl, hH⟩, qH, rfl⟩) | (go_at_call 30; refine Calls.mono (gw_ex (cM _)) ?_; rintro e w1 ⟨⟨d, rfl, hd⟩, qM, rfl⟩; have hle : H ≤ 2 * (d : Int) + 1 := Int.not_lt.1 (ht_max hH.out hd.out)) | (go_at_call 26; fail "x"))
        refine turn_useB cR (hT3.below bBel) (V := W) bBel hS3 ?_
        intro W4 S4 hT4 hS4 hb4
        have hsz4 := hb4.size
        have kb4 := blk_low kb hb4 hlt
        have okb4 := blk_older kb4
        have ckb4_0 : _ = some _ := blk_cell kb4 0
        have ckb4_1 : _ = some _ := blk_cell kb4 1
        have ckb4_2 : _ = some _ := blk_cell kb4 2
        have ckb4_3 : _ = some _ := blk_cell kb4 3
        have fkb4_0 := blk_free kb4 0
        have fkb4_1 := blk_free kb4 1
        have fkb4_2 := blk_free kb4 2
        have fkb4_3 := blk_free kb4 3
        go_wp2_with (first | (go_at_call 25; refine turn_useB cI3 (hT4.below bBel) (V := W) bBel hS4 ?_; intro W5 S5 hT5 hS5 hb5; have hsz5 := hb5.size) | (go_at_call 10; refine Calls.mono (gw_at (cE _)) ?_; rintro e w1 ⟨rfl, qE, rfl⟩))
        go_ret
        exact ⟨rfl, hbW.trans (Below.mono (w' := _) bBel hszW)⟩

theorem walk_BVHCapacity (id x0 y0 x1 y1 : Int) (hid : IntKind.i64.has id) (w : World) : Calls Try.prog 9 #[.int .i64 id, .agg #[.int .i64 x0, .int .i64 y0, .int .i64 x1, .int .i64 y1]] w fun e w' => e = .returned (.bool true) ∧ Below w.heap.size w w' := by
  have h1 := hid.1; have h2 := hid.2
  simp [IntKind.min, IntKind.max, IntKind.bits, IntKind.signed] at h1 h2
  rcases hD : val4 x0 y0 x1 y1
  · by_cases h3 : 0 ≤ id ∧ id < 4096
    · exact cap_in id x0 y0 x1 y1 h3.1 h3.2 w
    · exact cap_bad id x0 y0 x1 y1 hD (by omega) w
  · by_cases h3 : 0 ≤ id ∧ id < 4096
    · exact cap_in id x0 y0 x1 y1 h3.1 h3.2 w
    · exact cap_main id x0 y0 x1 y1 (by unfold i64k; omega) hD (by omega) w

end Go.Proofs.Ytdldlcibjjccpaa
