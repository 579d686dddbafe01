import Derived.Test.YtdldlcibjjccpaaBwD
import Derived.Test.YtdldlcibjjccpaaBxA
import Derived.Deep.DeepCutAuto
import Derived.Deep.RegionHeld3
set_option linter.unusedVariables false
set_option linter.unusedSimpArgs false
namespace Go.Proofs.Ytdldlcibjjccpaa
open Go.RowKit Fx

theorem bel_of_but {B : Nat} {w w' : World} {P : Nat → Prop} (h : But P w w') (hP : ∀ k, P k → B ≤ k) : B ≤ w.heap.size → Below B w w' := fun hB => ⟨h.os, h.tape, h.output, h.size, fun k hk => h.block k (by omega) (fun hh => by have := hP k hh; omega)⟩

theorem insT_mem {L : Bxs} {i : Int} {x : Bx} {e : Int × Bx} (h : e ∈ insT L i x) : e ∈ L ∨ e.1 = i := by
  unfold insT at h
  split at h
  · rcases List.mem_cons.1 ((insL_perm i x L).mem_iff.1 h) with rfl | h
    · exact .inr rfl
    · exact .inl h
  · exact .inl h

set_option maxRecDepth 100000 in
set_option maxHeartbeats 8000000 in
theorem clone_long (A : Option Addr) (cap : Nat) (l : List Bx) (x0 y0 x1 y1 : Int) (w : World) (hl : 40 < (l.length : Int)) : Calls Try.prog 7 #[.slice A l.length cap, .agg #[.int .i64 x0, .int .i64 y0, .int .i64 x1, .int .i64 y1]] w fun e w' => e = .returned (.bool true) ∧ Below w.heap.size w w' := by
  have cE : ExC := example20_b
  go_enter Try.func7, Try.ntmps7
  go_wp2_with (go_at_call 10; refine Calls.mono (gw_at (cE _)) ?_; rintro e w1 ⟨rfl, qE, rfl⟩)
  go_ret
  exact ⟨rfl, bBel⟩

set_option maxRecDepth 100000 in
set_option maxHeartbeats 16000000 in
theorem clone_main (A : Option Addr) (cap : Nat) (l : List Bx) (x0 y0 x1 y1 : Int) (w : World) (ha : Bxa w A l) (hl : l.length ≤ 40) : Calls Try.prog 7 #[.slice A l.length cap, .agg #[.int .i64 x0, .int .i64 y0, .int .i64 x1, .int .i64 y1]] w fun e w' => e = .returned (.bool true) ∧ Below w.heap.size w w' := by
  have cE : ExC := example20_b
  obtain ⟨n, hn'⟩ : ∃ n, l.length = n := ⟨_, rfl⟩
  rw [hn'] at hl ⊢
  have hn : Hid (l.length = n) := hn'
  clear hn'
  have hni : ¬ (40 : Int) < (n : Int) := by omega
  go_enter Try.func7, Try.ntmps7
  go_upto_region 3 with fail
  refine wp_named ?_
  intro W hW
  have kb : blk W w.heap.size #[.int .i64 x0, .int .i64 y0, .int .i64 x1, .int .i64 y1] 26 := by rw [hW]; exact bBkn
  have hbW : Below w.heap.size w W := by rw [hW]; exact bBel
  clear hW
  have hlt := blk_lt kb
  have hszW := hbW.size
  go_upto_region 4 with (go_at_call 11; with_reducible_and_instances refine Calls.mono (new_b _) ?_; rintro e W0 ⟨rfl, kt, hb0⟩; have hT0 := new_tree kt; clear kt)
  go_wp2_with fail
  go_loopw [6] (fun i wr => ∃ k : Nat, k ≤ n ∧ i = .int .i64 (k : Int) ∧ ∃ L S, Hid (∀ e ∈ L, 0 ≤ e.1 ∧ e.1 < (k : Int)) ∧ TreeAt wr W.heap.size L S ∧ Hid (∀ k, S k → W.heap.size ≤ k) ∧ Below W.heap.size W wr) (fun i _ => n - (intOf i).toNat)
  case atStart => exact ⟨0, by omega, rfl, _, _, (show ∀ e ∈ ([] : Bxs), 0 ≤ e.1 ∧ e.1 < ((0 : Nat) : Int) from fun e he => (by cases he)), hT0.below bBel, (show ∀ k, k = W.heap.size → W.heap.size ≤ k from fun k h => by omega), bBel⟩
  case round =>
    clear hT0 hb0
    obtain ⟨k, hk, rfl, L, S, hG, hT, hS, hb⟩ := hrel
    have hszR := hb.size
    by_cases hkn : k < n
    · have hki : (k : Int) < (n : Int) := by omega
      have hkl : k < l.length := by have := hn.out; omega
      obtain ⟨b, off, rfl, hbl, hcell⟩ := bxa_open ha (by have := hn.out; omega)
      obtain ⟨o, d0, d1, d2, d3⟩ := hcell k hkl wr (hbW.trans (hb.mono hszW))
      clear hcell
      generalize l[k] = x at *
      obtain ⟨a0, a1, a2, a3⟩ := x
      dsimp only at d0 d1 d2 d3
      clear hkl
      have cI := ins_c W.heap.size L (insT L (k : Int) ⟨a0, a1, a2, a3⟩) (k : Int) a0 a1 a2 a3 (insC L (k : Int) ⟨a0, a1, a2, a3⟩) (by unfold i64k; omega) rfl rfl
      have hG2 : Hid (∀ e ∈ insT L (k : Int) ⟨a0, a1, a2, a3⟩, 0 ≤ e.1 ∧ e.1 < ((k + 1 : Nat) : Int)) := show ∀ e ∈ insT L (k : Int) ⟨a0, a1, a2, a3⟩, 0 ≤ e.1 ∧ e.1 < ((k + 1 : Nat) : Int) from fun e he => by
        rcases insT_mem he with h | h
        · have := hG.out e h; omega
        · omega
      clear hG
      generalize insT L (k : Int) ⟨a0, a1, a2, a3⟩ = L2 at *
      generalize insC L (k : Int) ⟨a0, a1, a2, a3⟩ = c2 at *
      go_wp2_with (go_at_call 25; refine turn_useB cI (hT.below bBel) (V := W) bBel hS ?_; intro W2 S2 hT2 hS2 hb2)
      refine ⟨⟨k + 1, by omega, by go_num, L2, S2, hG2, hT2, hS2, bBel⟩, by (try go_num); simp [intOf]; (try omega)⟩
    · obtain rfl : k = n := by omega
      clear ha
      go_upto_region 9 with (go_at_call 31; refine Calls.mono (clone_b _ L _ _ (hT.below bBel)) ?_; rintro e X ⟨c, SC, rfl, hC, hbC⟩)
      have hTt : TreeAt X W.heap.size L S := hT.below hbC
      have hTc := hC.out.1
      have hSt : Hid (∀ k, S k → W.heap.size ≤ k ∧ k < wr.heap.size) := show ∀ k, S k → W.heap.size ≤ k ∧ k < wr.heap.size from fun k h => ⟨hS.out k h, hT.lt k h⟩
      have hSc : Hid (∀ k, SC k → wr.heap.size ≤ k ∧ k < X.heap.size) := show ∀ k, SC k → wr.heap.size ≤ k ∧ k < X.heap.size from fun k h => ⟨hC.out.2 k h, hTc.lt k h⟩
      have hszC := hbC.size
      have hbX : Below W.heap.size W X := hb.trans (hbC.mono hszR)
      clear hC hT hS hb hbC
      have kbX := blk_low kb hbX hlt
      have cN : ∀ a w S, TreeAt w a L S → Calls Try.prog 17 #[.pointer (some ⟨a, 0, none⟩)] w fun e w' => e = .returned (.int .i64 (L.length : Int)) ∧ Below w.heap.size w w' := fun a w S h => len_b a L S w h
      have cQ : ∀ a w S, TreeAt w a L S → Calls Try.prog 19 #[.pointer (some ⟨a, 0, none⟩), .agg #[.int .i64 x0, .int .i64 y0, .int .i64 x1, .int .i64 y1]] w fun e w' => (∃ v, e = .returned v ∧ w'.ownsRow w.heap.size 3 1 v (hitL L (fun b => Bx.ovl b ⟨x0, y0, x1, y1⟩)).length (iv (hitL L (fun b => Bx.ovl b ⟨x0, y0, x1, y1⟩)))) ∧ Below w.heap.size w w' := fun a w S h => query_b a L S x0 y0 x1 y1 w h
      have hQl : (hitL L (fun b => Bx.ovl b ⟨x0, y0, x1, y1⟩)).length ≤ 4096 := Nat.le_trans (hitL_len _ _) hTt.len
      have cP : ∀ a w S, TreeAt w a L S → Calls Try.prog 22 #[.pointer (some ⟨a, 0, none⟩)] w fun e w' => (∃ v, e = .returned v ∧ w'.ownsRow w.heap.size 41 2 v (prL L).length (pv (prL L))) ∧ Below w.heap.size w w' := fun a w S h => pairs_b a L S w h
      have hPl : (prL L).length ≤ 1000000000 := by
        have h1 := prT_len L L.length
        rw [prT_all] at h1
        have h2 : L.length * L.length ≤ 4096 * 4096 := Nat.mul_le_mul hTt.len hTt.len
        omega
      generalize hitL L (fun b => Bx.ovl b ⟨x0, y0, x1, y1⟩) = Q at *
      generalize prL L = PP at *
      generalize L.length = nL at *
      go_cut [49] (fun g wx => g = .bool false ∧ Below X.heap.size X wx)
      case first =>
        have hcellX : ∀ w', Below X.heap.size X w' → Below X.heap.size X w' ∧ w'.cell? ⟨w.heap.size, 0, none⟩ = some (.int .i64 x0) ∧ w'.cell? ⟨w.heap.size, 1, none⟩ = some (.int .i64 y0) ∧ w'.cell? ⟨w.heap.size, 2, none⟩ = some (.int .i64 x1) ∧ w'.cell? ⟨w.heap.size, 3, none⟩ = some (.int .i64 y1) := fun w' h => by
          have k2 := blk_below h kbX
          exact ⟨h, blk_cell k2 0, blk_cell k2 1, blk_cell k2 2, blk_cell k2 3⟩
        obtain ⟨-, d0, d1, d2, d3⟩ := hcellX X (Below.refl _ _)
        have oX : older w.heap.size X = true := older_of_cell d0
        go_region_held3 (fun w' => Below X.heap.size X w' ∧ w'.cell? ⟨w.heap.size, 0, none⟩ = some (.int .i64 x0) ∧ w'.cell? ⟨w.heap.size, 1, none⟩ = some (.int .i64 y0) ∧ w'.cell? ⟨w.heap.size, 2, none⟩ = some (.int .i64 x1) ∧ w'.cell? ⟨w.heap.size, 3, none⟩ = some (.int .i64 y1)) (first | (refine hcellX _ ?_; exact bBel)) (first
          | (go_at_call 17; (with_reducible show Calls _ _ #[.pointer (some ⟨c, 0, none⟩)] _ _); refine Calls.mono (gw_at (cN _ _ _ (hTc.below bBel))) ?_; rintro e w1 ⟨rfl, qn, rfl⟩)
          | (go_at_call 17; refine Calls.mono (gw_at (cN _ _ _ (hTt.below bBel))) ?_; rintro e w1 ⟨rfl, qm, rfl⟩)
          | (go_at_call 19; (with_reducible show Calls _ _ #[.pointer (some ⟨c, 0, none⟩), _] _ _); refine Calls.mono (gw_ex (cQ _ _ _ (hTc.below bBel))) ?_; rintro e w1 ⟨⟨v1, rfl, ho1⟩, q1, rfl⟩)
          | (go_at_call 19; refine Calls.mono (gw_ex (cQ _ _ _ (hTt.below bBel))) ?_; rintro e w1 ⟨⟨v2, rfl, ho2⟩, q2, rfl⟩)
          | (go_at_call 18; refine Calls.mono (gw_at (eqints_b _ _ _ _ Q Q _ (owns_below ho1 bBel) (owns_below ho2 bBel) true (by simp) (by omega))) ?_; rintro e w1 ⟨rfl, qe, rfl⟩))
        all_goals
          go_wp2_with fail
        all_goals
          go_meet
          exact ⟨rfl, bBel⟩
      case rest =>
      obtain ⟨rfl, hbY⟩ := hcut
      generalize wc = Y at *
      have hszY := hbY.size
      have hszX := hbX.size
      have hTtY := hTt.below hbY
      have hTcY := hTc.below hbY
      have kbY := blk_low kb (hbX.trans (hbY.mono hszX)) hlt
      clear kbX hTt hTc cN
      have okbY := blk_older kbY
      have ckbY_0 : _ = some _ := blk_cell kbY 0
      have ckbY_1 : _ = some _ := blk_cell kbY 1
      have ckbY_2 : _ = some _ := blk_cell kbY 2
      have ckbY_3 : _ = some _ := blk_cell kbY 3
      have fkbY_0 := blk_free kbY 0
      have fkbY_1 := blk_free kbY 1
      have fkbY_2 := blk_free kbY 2
      have fkbY_3 := blk_free kbY 3
      go_upto_region 12 with (first
        | (go_at_call 19; refine Calls.mono (gw_ex (cQ _ _ _ (hTtY.below bBel))) ?_; rintro e w1 ⟨⟨v3, rfl, ho3⟩, q3, rfl⟩)
        | (go_at_call 22; refine Calls.mono (gw_ex (cP _ _ _ (hTtY.below bBel))) ?_; rintro e w1 ⟨⟨v4, rfl, ho4⟩, q4, rfl⟩))
      refine wp_named ?_
      intro V hV
      have hbV : Below Y.heap.size Y V := by rw [hV]; exact bBel
      have hszV := hbV.size
      have ho3V : V.ownsRow Y.heap.size 3 1 v3 Q.length (iv Q) := owns_base (by rw [hV]; exact owns_below ho3 bBel) (Nat.le_refl _)
      have ho4V : V.ownsRow Y.heap.size 41 2 v4 PP.length (pv PP) := owns_base (by rw [hV]; exact owns_below ho4 bBel) (by simp only [size_gw]; omega)
      clear hV ho3 ho4
      have hTtV := hTtY.below hbV
      have hTcV := hTcY.below hbV
      have kbV := blk_below hbV kbY
      clear hTtY hTcY kbY
      have hVP : Hid (∀ k, V.heap.size ≤ k → SC k ∨ V.heap.size ≤ k) := fun k h => .inr h
      go_wp2_with fail
      go_loopw [10] (fun i wr => ∃ k2 : Nat, k2 ≤ k ∧ i = .int .i64 (k2 : Int) ∧ ∃ L S, Hid (∀ e ∈ L, (k2 : Int) ≤ e.1 ∧ e.1 < (k : Int)) ∧ TreeAt wr c L S ∧ Hid (∀ k, S k → SC k ∨ V.heap.size ≤ k) ∧ But (fun k => SC k ∨ V.heap.size ≤ k) V wr) (fun i _ => k - (intOf i).toNat)
      case atStart => exact ⟨0, by omega, rfl, L, SC, (show ∀ e ∈ L, ((0 : Nat) : Int) ≤ e.1 ∧ e.1 < (k : Int) from fun e he => hG.out e he), hTcV.below bBel, (show ∀ k, SC k → SC k ∨ V.heap.size ≤ k from fun k h => .inl h), But.ofBelow bBel _⟩
      case round =>
        obtain ⟨k2, hk2, rfl, L2, S2, hG2, hT2, hS2, hB2⟩ := hrel
        by_cases hkn2 : k2 < k
        · have hki2 : (k2 : Int) < (k : Int) := by omega
          have cR := rem_c c L2 (remL L2 (k2 : Int)) (k2 : Int) (look L2 (k2 : Int)).isSome (by unfold i64k; omega) rfl rfl
          have hG3 : Hid (∀ e ∈ remL L2 (k2 : Int), ((k2 + 1 : Nat) : Int) ≤ e.1 ∧ e.1 < (k : Int)) := show ∀ e ∈ remL L2 (k2 : Int), ((k2 + 1 : Nat) : Int) ≤ e.1 ∧ e.1 < (k : Int) from fun e he => by
            obtain ⟨h1, h2⟩ := mem_remL.1 he
            have := hG2.out e h1; omega
          clear hG2
          generalize remL L2 (k2 : Int) = L3 at *
          generalize (look L2 (k2 : Int)).isSome = bo at *
          go_wp2_with (go_at_call 26; refine turn_useV cR (hT2.below bBel) bBut hS2 hVP ?_; intro W3 S3 hT3 hS3 hB3)
          refine ⟨⟨k2 + 1, by omega, by go_num, L3, S3, hG3, hT3, hS3, bBut⟩, by (try go_num); simp [intOf]; (try omega)⟩
        · obtain rfl : k2 = k := by omega
          obtain rfl : L2 = [] := by
            rcases L2 with _ | ⟨e, L2⟩
            · rfl
            · have := hG2.out e (List.mem_cons_self ..); omega
          have cI := ins_c c [] [(1, ⟨0, 0, 1, 1⟩)] 1 0 0 1 1 0 (by unfold i64k; omega) (by decide) (by decide)
          have cU := fun w => ubox_b 0 (by omega) (by omega) w
          go_upto_region 17 with (first | (go_at_call 28; refine Calls.mono (gw_at (cU _)) ?_; rintro e w1 ⟨rfl, qu, rfl⟩) | (go_at_call 25; refine turn_useV cI (hT2.below bBel) bBut hS2 hVP ?_; intro Z S3 hT3 hS3 hB3))
          have hTtZ : TreeAt Z W.heap.size L S := hTtV.but hB3 fun k hk hh => by
            have h1 := hSt.out k hk
            have h2 := hTtV.lt k hk
            rcases hh with hh | hh
            · have := hSc.out k hh; omega
            · omega
          have ho3Z : Z.ownsRow Y.heap.size 3 1 v3 Q.length (iv Q) := owns_but ho3V hB3 fun k hk hh => by
            have h1 := World.ownsRow.lt ho3V k hk
            rcases hh with hh | hh
            · have := hSc.out k hh; omega
            · omega
          have ho4Z : Z.ownsRow Y.heap.size 41 2 v4 PP.length (pv PP) := owns_but ho4V hB3 fun k hk hh => by
            have h1 := World.ownsRow.lt ho4V k hk
            rcases hh with hh | hh
            · have := hSc.out k hh; omega
            · omega
          have kbZ := hB3.blk kbV (by
            intro hh
            rcases hh with hh | hh
            · have := hSc.out _ hh; omega
            · omega)
          have hbV2 : Below W.heap.size W V := hbX.trans ((hbY.trans (hbV.mono hszY)).mono hszX)
          have hbZ : Below w.heap.size w Z := hbW.trans ((hbV2.mono hszW).trans (bel_of_but hB3 (fun k hk => by
            rcases hk with hk | hk
            · have := hSc.out k hk; omega
            · omega) (by omega)))
          have hszZ := hbZ.size
          have cN1 : ∀ w S, TreeAt w c [(1, ⟨0, 0, 1, 1⟩)] S → Calls Try.prog 17 #[.pointer (some ⟨c, 0, none⟩)] w fun e w' => e = .returned (.int .i64 1) ∧ Below w.heap.size w w' := fun w S h => len_b c _ S w h
          clear hT2 hS2 hB2 hTtV hTcV kbV ho3V ho4V hB3 hS3 cU cI hVP hbV2 hbV hbY hbX hSt hSc hG hG2
          have okbZ := blk_older kbZ
          have ckbZ_0 : _ = some _ := blk_cell kbZ 0
          have ckbZ_1 : _ = some _ := blk_cell kbZ 1
          have ckbZ_2 : _ = some _ := blk_cell kbZ 2
          have ckbZ_3 : _ = some _ := blk_cell kbZ 3
          have fkbZ_0 := blk_free kbZ 0
          have fkbZ_1 := blk_free kbZ 1
          have fkbZ_2 := blk_free kbZ 2
          have fkbZ_3 := blk_free kbZ 3
          go_wp2_with (first
            | (go_at_call 17; refine Calls.mono (gw_at (cN1 _ _ (hT3.below bBel))) ?_; rintro e w1 ⟨rfl, qn, rfl⟩)
            | (go_at_call 19; refine Calls.mono (gw_ex (cQ _ _ _ (hTtZ.below bBel))) ?_; rintro e w1 ⟨⟨v5, rfl, ho5⟩, q5, rfl⟩)
            | (go_at_call 18; refine Calls.mono (gw_at (eqints_b _ _ _ _ Q Q _ (owns_below ho5 bBel) (owns_below ho3Z bBel) true (by simp) (by omega))) ?_; rintro e w1 ⟨rfl, qe, rfl⟩)
            | (go_at_call 22; refine Calls.mono (gw_ex (cP _ _ _ (hTtZ.below bBel))) ?_; rintro e w1 ⟨⟨v6, rfl, ho6⟩, q6, rfl⟩)
            | (go_at_call 21; refine Calls.mono (gw_at (eqpairs_b _ _ _ _ PP PP _ (owns_below ho6 bBel) (owns_below ho4Z bBel) true (by simp) (by omega))) ?_; rintro e w1 ⟨rfl, qf, rfl⟩)
            | (go_at_call 10; refine Calls.mono (gw_at (cE _)) ?_; rintro e w1 ⟨rfl, qE, rfl⟩))
          go_ret
          exact ⟨rfl, bBel⟩

theorem walk_BVHClone (A : Option Addr) (cap : Nat) (l : List Bx) (x0 y0 x1 y1 : Int) (w : World) (ha : Bxa w A l) : Calls Try.prog 7 #[.slice A l.length cap, .agg #[.int .i64 x0, .int .i64 y0, .int .i64 x1, .int .i64 y1]] w fun e w' => e = .returned (.bool true) ∧ Below w.heap.size w w' := by
  by_cases h : l.length ≤ 40
  · exact clone_main A cap l x0 y0 x1 y1 w ha h
  · exact clone_long A cap l x0 y0 x1 y1 w (by omega)

end Go.Proofs.Ytdldlcibjjccpaa
