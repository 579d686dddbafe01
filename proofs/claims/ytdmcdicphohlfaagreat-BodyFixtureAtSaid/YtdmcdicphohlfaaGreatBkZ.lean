/- Chapter 23: BodyFixtureAt. -/
import Derived.Test.YtdmcdicphohlfaaGreatBkU
import Derived.Test.YtdmcdicphohlfaaGreatBkJ
set_option linter.unusedVariables false
set_option linter.unusedSimpArgs false
namespace Go.Proofs.YtdmcdicphohlfaaGreat
open Go.RowKit Fx Go.Maps

theorem has23_con (a0 a1 a2 a3 x y : Int) : Bx.has ⟨a0, a1, a2, a3⟩ x y = con8 a0 a1 a2 a3 (sat x) (sat y) (sat x) (sat y) := by
  have ss : ∀ z, sat z = sat (sat z) := fun z => by unfold sat; repeat' split
                                                    all_goals omega
  have h1 : (Bx.mk (sat x) (sat y) (sat x) (sat y)).ok := ⟨Int.le_refl _, Int.le_refl _, ss _, ss _, ss _, ss _⟩
  rw [Bool.eq_iff_iff]
  simp only [con8, Bx.con, Bx.has, Bx.val, Bool.and_eq_true, decide_eq_true_eq, h1]
  constructor
  · rintro ⟨⟨⟨⟨a, b⟩, c⟩, d⟩, e⟩; exact ⟨⟨⟨⟨⟨a, trivial⟩, b⟩, c⟩, d⟩, e⟩
  · rintro ⟨⟨⟨⟨⟨a, _⟩, b⟩, c⟩, d⟩, e⟩; exact ⟨⟨⟨⟨a, b⟩, c⟩, d⟩, e⟩

theorem xhas23_b (x0 y0 x1 y1 x y : Int) (w : World) : Calls Tryz.prog 39 #[.agg #[.int .i64 x0, .int .i64 y0, .int .i64 x1, .int .i64 y1], .agg #[.int .i64 x, .int .i64 y]] w fun e w' => e = .returned (.bool (Bx.has ⟨x0, y0, x1, y1⟩ x y)) ∧ Below w.heap.size w w' := by
  rw [has23_con]
  go_enter Tryz.func39, Tryz.ntmps39
  go_wp2_with (first | (go_at_call 101; refine Calls.mono (gw_at (xone_b _ _ _)) ?_; rintro e w1 ⟨rfl, q, rfl⟩) | (go_at_call 100; (first | (refine Calls.mono (gw_at (boolIs (xcon_b _ _ _ _ _ _ _ _ _) (b := true) (by assumption))) ?_; rintro e w1 ⟨rfl, q, rfl⟩) | (refine Calls.mono (gw_at (boolIs (xcon_b _ _ _ _ _ _ _ _ _) (b := false) (by assumption))) ?_; rintro e w1 ⟨rfl, q, rfl⟩) | (refine Calls.mono (gw_at (xcon_b _ _ _ _ _ _ _ _ _)) ?_; rintro e w1 ⟨rfl, q, rfl⟩))))
  repeat
    refine wp_region_gw (by kernel_rfl) (by kernel_rfl) ?_
    repeat (go_big_quiet_step ((first | (go_at_call 101; exact gw_call (xone_b _ _ _)) | (go_at_call 100; (first | (exact gw_call (boolIs (xcon_b _ _ _ _ _ _ _ _ _) (b := true) (by assumption))) | (exact gw_call (boolIs (xcon_b _ _ _ _ _ _ _ _ _) (b := false) (by assumption))) | (exact gw_call (xcon_b _ _ _ _ _ _ _ _ _)))))))
    refine wpQuiet_nil ?_
    intro w1 hw1
    obtain ⟨q, rfl⟩ := hw1
    go_wp2_with (first | (go_at_call 101; refine Calls.mono (gw_at (xone_b _ _ _)) ?_; rintro e w1 ⟨rfl, q, rfl⟩) | (go_at_call 100; (first | (refine Calls.mono (gw_at (boolIs (xcon_b _ _ _ _ _ _ _ _ _) (b := true) (by assumption))) ?_; rintro e w1 ⟨rfl, q, rfl⟩) | (refine Calls.mono (gw_at (boolIs (xcon_b _ _ _ _ _ _ _ _ _) (b := false) (by assumption))) ?_; rintro e w1 ⟨rfl, q, rfl⟩) | (refine Calls.mono (gw_at (xcon_b _ _ _ _ _ _ _ _ _)) ?_; rintro e w1 ⟨rfl, q, rfl⟩))))
  go_ret
  exact ⟨rfl, bBel⟩

set_option maxRecDepth 100000 in
set_option maxHeartbeats 16000000 in
theorem walk_BodyFixtureAt (b : Bdy) (px py : Int) (w : World) (hB : BdArg w b) : Calls Tryz.prog 8 #[.agg (bdc b).toArray, .agg #[.int .i64 px, .int .i64 py]] w fun e w' => e = .returned (.bool true) ∧ Below w.heap.size w w' := by
  have hb := hB.2
  clear hB
  have cX := fun w' => example23_b w'
  by_cases hs : smB b
  rotate_left
  · have cS := fun w' h => rsm_b b w' h false (by simp [hs])
    clear hs
    go_enter Tryz.func8, Tryz.ntmps8
    go_upto_region 1 with fail
    refine wp_named ?_
    intro V hV
    have kb : blk V (w.heap.size) (bdc b).toArray 29 := by rw [hV]; exact bBkn
    have kp : blk V (w.heap.size + 1) #[.int .i64 px, .int .i64 py] 24 := by rw [hV]; exact bBkn
    have hbV : Below w.heap.size w V := by rw [hV]; exact bBel
    clear hV
    have hszV := hbV.size
    have ob := blk_older kb
    obtain ⟨cb0, cb1, cb2, cb3, cb4, cb5, cb6, cb7, cb8, cb9, cb10, cb11, cb12, cb13, cb14, cb15, cb16, cb17, cb18, cb19⟩ := bd_cells kb
    have op := blk_older kp
    have cp0 := blk_cell kp 0
    have cp1 := blk_cell kp 1
    have hQb : Hid (∀ w', Below V.heap.size V w' → w'.rangeAt (w.heap.size) 0 (bdc b)) := fun w' h' => rng_blk23 (blk_below h' kb)
    go_wp2_with (first | (refine wpList_load_g (by rfl) 29 _ rfl (w.heap.size) 0 rfl _ _ (hQb.out _ bBel) Tryz.underlying29 rfl (bd_sizeC b) ?_) | (go_at_call 11; with_reducible_and_instances refine Calls.mono (gw_at (cS _ (BdIn.to hb bBel))) ?_; rintro e w1 ⟨rfl, q, rfl⟩) | (go_at_call 12; with_reducible_and_instances refine Calls.mono (gw_at (cX _)) ?_; rintro e w1 ⟨rfl, q, rfl⟩))
    go_ret
    exact ⟨rfl, bBel⟩
  have cS := fun w' h => rsm_b b w' h true (by simp [hs])
  have ho : okL b := ⟨by have := hs.1; omega, fun f hf => by have := hs.2 f hf; omega⟩
  have hoH : Hid (okL b) := ho
  clear ho
  clear hs
  have cV := fun w' h => pval_b b w' hoH.out h
  by_cases hv : bdV b = 0
  rotate_left
  · generalize bdV b = V0 at *
    go_enter Tryz.func8, Tryz.ntmps8
    go_upto_region 1 with fail
    refine wp_named ?_
    intro V hV
    have kb : blk V (w.heap.size) (bdc b).toArray 29 := by rw [hV]; exact bBkn
    have kp : blk V (w.heap.size + 1) #[.int .i64 px, .int .i64 py] 24 := by rw [hV]; exact bBkn
    have hbV : Below w.heap.size w V := by rw [hV]; exact bBel
    clear hV
    have hszV := hbV.size
    have ob := blk_older kb
    obtain ⟨cb0, cb1, cb2, cb3, cb4, cb5, cb6, cb7, cb8, cb9, cb10, cb11, cb12, cb13, cb14, cb15, cb16, cb17, cb18, cb19⟩ := bd_cells kb
    have op := blk_older kp
    have cp0 := blk_cell kp 0
    have cp1 := blk_cell kp 1
    have hQb : Hid (∀ w', Below V.heap.size V w' → w'.rangeAt (w.heap.size) 0 (bdc b)) := fun w' h' => rng_blk23 (blk_below h' kb)
    go_wp2_with (first | (refine wpList_load_g (by rfl) 29 _ rfl (w.heap.size) 0 rfl _ _ (hQb.out _ bBel) Tryz.underlying29 rfl (bd_sizeC b) ?_) | (go_at_call 11; with_reducible_and_instances refine Calls.mono (gw_at (cS _ (BdIn.to hb bBel))) ?_; rintro e w1 ⟨rfl, q, rfl⟩) | (go_at_call 13; with_reducible_and_instances refine Calls.mono (gw_at (cV _ (BdIn.to hb bBel))) ?_; rintro e w1 ⟨rfl, q, rfl⟩) | (go_at_call 12; with_reducible_and_instances refine Calls.mono (gw_at (cX _)) ?_; rintro e w1 ⟨rfl, q, rfl⟩))
    go_ret
    exact ⟨rfl, bBel⟩
  have hfin : Hid (∀ i (hi : i < b.fs.length), fat b px py b.fs[i] = true → ((bxs23 b b.fs.length).exp 2).has px py = true) := fun i hi h => fat_in hv hi h
  rw [hv] at cV
  clear hv
  have hll : b.fs.length ≤ 1000000 := hoH.out.1
  have cB := fun w' h => pbd_b b w' hoH.out h
  have cF := fun w' h => pfa_b b px py w' hoH.out h
  have hcs := fxat_cases b px py
  have hD1 : ¬ fxat b px py < -1 := by rcases hcs with ⟨h, _⟩ | ⟨i, _, h, _⟩ <;> omega
  have hD2 : ¬ (b.fs.length : Int) ≤ fxat b px py := by rcases hcs with ⟨h, _⟩ | ⟨i, _, h, _⟩ <;> omega
  have hhas : Hid (¬ fxat b px py < 0 → ((bxs23 b b.fs.length).exp 2).has px py = true) := fun hn => by
    rcases hcs with ⟨h, _⟩ | ⟨i, hi, h, h2, _⟩
    · omega
    · exact hfin.out i hi h2
  have hcase : Hid (∀ k (hk : k < b.fs.length), (fat b px py b.fs[k] = true → ¬ fxat b px py < 0 ∧ ¬ (k : Int) < fxat b px py) ∧ (fat b px py b.fs[k] = false → ¬ (k : Int) = fxat b px py)) := fun k hk => by
    rcases hcs with ⟨h, h3⟩ | ⟨i, hi, h, h2, h3⟩
    · refine ⟨fun h4 => ?_, fun _ => by omega⟩
      rw [h3 _ (List.getElem_mem hk)] at h4; cases h4
    · refine ⟨fun h4 => ⟨by omega, fun h5 => ?_⟩, fun h4 h5 => ?_⟩
      · rw [h3 k hk (by omega)] at h4; cases h4
      · obtain rfl : k = i := by omega
        rw [h2] at h4; cases h4
  clear hcs hfin
  generalize fxat b px py = D at *
  obtain ⟨U, hU⟩ : ∃ U, bxs23 b b.fs.length = U := ⟨_, rfl⟩
  rw [hU] at cB hhas
  clear hU
  obtain ⟨U0, U1, U2, U3⟩ := U
  dsimp only at cB
  have cE := fun w' => xexp_b U0 U1 U2 U3 2 w'
  obtain ⟨E, hE⟩ : ∃ E, Bx.exp ⟨U0, U1, U2, U3⟩ 2 = E := ⟨_, rfl⟩
  rw [hE] at cE hhas
  clear hE
  obtain ⟨E0, E1, E2, E3⟩ := E
  dsimp only at cE
  have cH := fun w' => xhas23_b E0 E1 E2 E3 px py w'
  have hhs : Hid (¬ D < 0 → Bx.has ⟨E0, E1, E2, E3⟩ px py = true) := fun h => hhas.out h
  clear hhas
  generalize Bx.has ⟨E0, E1, E2, E3⟩ px py = HH at *
  obtain ⟨K, hK⟩ : ∃ K, decide (0 < b.fs.length) = K := ⟨_, rfl⟩
  rw [hK] at cB
  have hKH : Hid (decide ((0 : Int) < (b.fs.length : Int)) = K) := by rw [← hK]; exact decide_eq_decide.2 (by omega)
  clear hK
  go_enter Tryz.func8, Tryz.ntmps8
  go_upto_region 1 with fail
  refine wp_named ?_
  intro V hV
  have kb : blk V (w.heap.size) (bdc b).toArray 29 := by rw [hV]; exact bBkn
  have kp : blk V (w.heap.size + 1) #[.int .i64 px, .int .i64 py] 24 := by rw [hV]; exact bBkn
  have hbV : Below w.heap.size w V := by rw [hV]; exact bBel
  clear hV
  have hszV := hbV.size
  have ob := blk_older kb
  obtain ⟨cb0, cb1, cb2, cb3, cb4, cb5, cb6, cb7, cb8, cb9, cb10, cb11, cb12, cb13, cb14, cb15, cb16, cb17, cb18, cb19⟩ := bd_cells kb
  have op := blk_older kp
  have cp0 := blk_cell kp 0
  have cp1 := blk_cell kp 1
  have hQb : Hid (∀ w', Below V.heap.size V w' → w'.rangeAt (w.heap.size) 0 (bdc b)) := fun w' h' => rng_blk23 (blk_below h' kb)
  go_upto_region 4 with (first | (refine wpList_load_g (by rfl) 29 _ rfl (w.heap.size) 0 rfl _ _ (hQb.out _ bBel) Tryz.underlying29 rfl (bd_sizeC b) ?_) | (go_at_call 11; with_reducible_and_instances refine Calls.mono (gw_at (cS _ (BdIn.to hb bBel))) ?_; rintro e w1 ⟨rfl, q, rfl⟩) | (go_at_call 13; with_reducible_and_instances refine Calls.mono (gw_at (cV _ (BdIn.to hb bBel))) ?_; rintro e w1 ⟨rfl, q, rfl⟩) | (go_at_call 27; with_reducible_and_instances refine Calls.mono (gw_at (cF _ (BdIn.to hb bBel))) ?_; rintro e w1 ⟨rfl, q, rfl⟩))
  refine wp_named ?_
  intro W hW
  have kbW : blk W w.heap.size (bdc b).toArray 29 := by rw [hW]; repeat (first | exact kb | apply blk_gw)
  have kpW : blk W (w.heap.size + 1) #[.int .i64 px, .int .i64 py] 24 := by rw [hW]; repeat (first | exact kp | apply blk_gw)
  have hbW : Below w.heap.size w W := by rw [hW]; exact bBel
  clear hW hQb kb kp hbV cb0 cb1 cb2 cb3 cb4 cb5 cb6 cb7 cb8 cb9 cb10 cb11 cb12 cb13 cb14 cb15 cb16 cb17 cb18 cb19 cp0 cp1 ob op cF cV cS
  have hszW := hbW.size
  have hInW := hb.to hbW
  have hQw : Hid (∀ w', Below W.heap.size W w' → w'.rangeAt w.heap.size 0 (bdc b)) := fun w' h' => rng_blk23 (blk_below h' kbW)
  have obW := blk_older kbW
  try simp only [Act.put]
  go_upto_region 5 with (first | (refine wpList_load_g (by rfl) 29 _ rfl w.heap.size 0 rfl _ _ (hQw.out _ bBel) Tryz.underlying29 rfl (bd_sizeC b) ?_) | (go_at_call 17; refine Calls.mono (cB W hInW) ?_; rintro e U4 ⟨rfl, hb4⟩))
  have hz4 := hb4.size
  refine wp_named ?_
  intro X hX
  have kx : blk X U4.heap.size #[.int .i64 U0, .int .i64 U1, .int .i64 U2, .int .i64 U3] 45 := by rw [hX]; exact bBkn
  have hbWX : Below W.heap.size W X := by rw [hX]; exact bBel
  clear hX hQw
  have hbX : Below w.heap.size w X := Below.trans hbW (hbWX.mono hszW)
  have hszX := hbX.size
  have hInX := hb.to hbX
  have kbX := blk_below hbWX kbW
  have kpX := blk_below hbWX kpW
  clear hb4 kbW kpW obW hbWX hInW cB hbW hszW
  generalize U4.heap.size = X1 at *
  clear hz4
  have hF : Fxs X b.A b.fs := hInX.1
  clear hb hInX
  obtain ⟨A0, hA0⟩ : ∃ A0, b.A = A0 := ⟨_, rfl⟩
  rw [hA0] at hF
  have hA0H : Hid (b.A = A0) := hA0
  clear hA0
  have obX := blk_older kbX
  obtain ⟨-, -, -, -, -, -, -, -, -, -, -, -, -, -, -, -, -, -, -, cb19⟩ := bd_cells kbX
  rw [hA0H.out] at cb19
  try simp only [Act.put]
  rw [← hKH.out]
  by_cases hposI : (0 : Int) < (b.fs.length : Int)
  · rw [decide_eq_true hposI]
    go_upto_region 8 with fail
    clear cb19 obX hposI
    go_loopw [8, 9] (fun i c wr => ∃ k : Nat, k ≤ b.fs.length ∧ i = .int .i64 (k : Int) ∧ Below X.heap.size X wr) (fun i c _ => b.fs.length - (intOf i).toNat)
    case atStart => exact ⟨0, by omega, rfl, bBel⟩
    case round =>
      obtain ⟨k, hk, rfl, hbR⟩ := hrel
      have hszR := hbR.size
      have hbwR : Below w.heap.size w wr := Below.trans hbX (hbR.mono hszX)
      have kbR := blk_below hbR kbX
      have kpR := blk_below hbR kpX
      have kxR := blk_below hbR kx
      obtain ⟨-, -, cR2, cR3, cR4, -, -, -, -, -, -, -, -, -, -, -, -, -, -, cR19⟩ := bd_cells kbR
      have oB := blk_older kbR
      have oP := blk_older kpR
      have oX := blk_older kxR
      have cp0 : wr.cell? ⟨w.heap.size + 1, 0, none⟩ = some (.int .i64 px) := blk_cell kpR 0
      have cp1 : wr.cell? ⟨w.heap.size + 1, 1, none⟩ = some (.int .i64 py) := blk_cell kpR 1
      rw [hA0H.out] at cR19
      by_cases hlt : k < b.fs.length
      · have hltI : (k : Int) < (b.fs.length : Int) := by omega
        have hk0 : (0 : Int) ≤ (k : Int) := by omega
        obtain ⟨b2, off2, rfl, hq, hr0⟩ := fxs_at23 hF hlt
        obtain ⟨og, hr⟩ := hr0 wr hbR
        have hps := hoH.out.2 _ (List.getElem_mem hlt)
        have hg := hcase.out k hlt
        have hPk := Pts.to hq.2.1 hbR
        have hcap := hq.2.2.2.1
        have cC0 := fun (w' : World) (hx : Pts w' b.fs[k].A b.fs[k].ps) => ycon_b b.fs[k].K b.fs[k].R b.fs[k].A b.fs[k].cap b.fs[k].ps b.px b.py b.pa px py hps w' hx hcap
        have hFt : Hid (conS b.fs[k].K b.fs[k].R b.fs[k].ps b.px b.py b.pa px py = fat b px py b.fs[k]) := rfl
        rw [hFt.out] at cC0
        obtain ⟨d0, d1, d2, -, -, -, -, -, -, -⟩ := fx_range hr
        clear hr hr0 hq hFt hps hcap
        cases hft : fat b px py b.fs[k]
        all_goals
          rw [hft] at cC0
        · have hg2 := hg.2 hft
          clear hg hft
          generalize b.fs[k].K = K2 at *
          generalize b.fs[k].R = R2 at *
          generalize b.fs[k].A = A2 at *
          generalize b.fs[k].cap = c2 at *
          generalize b.fs[k].ps = p2 at *
          go_upto_region 10 with fail
          refine wp_region_gw (by kernel_rfl) (by kernel_rfl) ?_
          repeat (first | go_big_quiet_step ((first | (go_at_call 38; with_reducible_and_instances exact gw_call (cC0 _ (Pts.to hPk bBel))))))
          refine wpQuiet_nil ?_
          intro w1 hw1
          obtain ⟨q, rfl⟩ := hw1
          go_wp2_with fail
          all_goals exact ⟨⟨k + 1, by omega, by go_num, bBel⟩, by (try go_num); simp [intOf]; (try omega)⟩
        · have hg1 := (hg.1 hft).1
          have hg2 := (hg.1 hft).2
          clear hg hft
          generalize b.fs[k].K = K2 at *
          generalize b.fs[k].R = R2 at *
          generalize b.fs[k].A = A2 at *
          generalize b.fs[k].cap = c2 at *
          generalize b.fs[k].ps = p2 at *
          go_upto_region 10 with fail
          refine wp_region_gw (by kernel_rfl) (by kernel_rfl) ?_
          repeat (first | go_big_quiet_step ((first | (go_at_call 38; with_reducible_and_instances exact gw_call (cC0 _ (Pts.to hPk bBel))))))
          refine wpQuiet_nil ?_
          intro w1 hw1
          obtain ⟨q, rfl⟩ := hw1
          go_wp2_with fail
          all_goals exact ⟨⟨k + 1, by omega, by go_num, bBel⟩, by (try go_num); simp [intOf]; (try omega)⟩
      · obtain rfl : k = b.fs.length := by omega
        have hne : ¬ (b.fs.length : Int) < (b.fs.length : Int) := by omega
        have x0 : wr.cell? ⟨X1, 0, none⟩ = some (.int .i64 U0) := blk_cell kxR 0
        have x1 : wr.cell? ⟨X1, 1, none⟩ = some (.int .i64 U1) := blk_cell kxR 1
        have x2 : wr.cell? ⟨X1, 2, none⟩ = some (.int .i64 U2) := blk_cell kxR 2
        have x3 : wr.cell? ⟨X1, 3, none⟩ = some (.int .i64 U3) := blk_cell kxR 3
        by_cases hDn : D < 0
        · go_upto_region 13 with fail
          refine wp_region_gw (by kernel_rfl) (by kernel_rfl) ?_
          repeat (first | go_big_quiet_step ((first | (go_at_call 40; with_reducible_and_instances exact gw_call (cE _)) | (go_at_call 39; with_reducible_and_instances exact gw_call (cH _)) | (go_at_call 12; with_reducible_and_instances exact gw_call (cX _)))))
          refine wpQuiet_nil ?_
          intro w1 hw1
          obtain ⟨q, rfl⟩ := hw1
          go_wp2_with fail
          go_ret
          exact ⟨rfl, bBel⟩
        · rw [hhs.out (by omega)] at cH
          go_upto_region 13 with fail
          refine wp_region_gw (by kernel_rfl) (by kernel_rfl) ?_
          repeat (first | go_big_quiet_step ((first | (go_at_call 40; with_reducible_and_instances exact gw_call (cE _)) | (go_at_call 39; with_reducible_and_instances exact gw_call (cH _)) | (go_at_call 12; with_reducible_and_instances exact gw_call (cX _)))))
          refine wpQuiet_nil ?_
          intro w1 hw1
          obtain ⟨q, rfl⟩ := hw1
          go_wp2_with fail
          go_ret
          exact ⟨rfl, bBel⟩
  · rw [decide_eq_false hposI]
    have hl0 : b.fs.length = 0 := by omega
    rw [hl0] at cb19
    have hD3 : ¬ (0 : Int) ≤ D := by omega
    clear hl0
    go_upto_region 8 with fail
    clear hD3
    clear cb19 obX hposI
    go_loopw [8, 9] (fun i c wr => ∃ k : Nat, k ≤ b.fs.length ∧ i = .int .i64 (k : Int) ∧ Below X.heap.size X wr) (fun i c _ => b.fs.length - (intOf i).toNat)
    case atStart => exact ⟨0, by omega, rfl, bBel⟩
    case round =>
      obtain ⟨k, hk, rfl, hbR⟩ := hrel
      have hszR := hbR.size
      have hbwR : Below w.heap.size w wr := Below.trans hbX (hbR.mono hszX)
      have kbR := blk_below hbR kbX
      have kpR := blk_below hbR kpX
      have kxR := blk_below hbR kx
      obtain ⟨-, -, cR2, cR3, cR4, -, -, -, -, -, -, -, -, -, -, -, -, -, -, cR19⟩ := bd_cells kbR
      have oB := blk_older kbR
      have oP := blk_older kpR
      have oX := blk_older kxR
      have cp0 : wr.cell? ⟨w.heap.size + 1, 0, none⟩ = some (.int .i64 px) := blk_cell kpR 0
      have cp1 : wr.cell? ⟨w.heap.size + 1, 1, none⟩ = some (.int .i64 py) := blk_cell kpR 1
      rw [hA0H.out] at cR19
      by_cases hlt : k < b.fs.length
      · have hltI : (k : Int) < (b.fs.length : Int) := by omega
        have hk0 : (0 : Int) ≤ (k : Int) := by omega
        obtain ⟨b2, off2, rfl, hq, hr0⟩ := fxs_at23 hF hlt
        obtain ⟨og, hr⟩ := hr0 wr hbR
        have hps := hoH.out.2 _ (List.getElem_mem hlt)
        have hg := hcase.out k hlt
        have hPk := Pts.to hq.2.1 hbR
        have hcap := hq.2.2.2.1
        have cC0 := fun (w' : World) (hx : Pts w' b.fs[k].A b.fs[k].ps) => ycon_b b.fs[k].K b.fs[k].R b.fs[k].A b.fs[k].cap b.fs[k].ps b.px b.py b.pa px py hps w' hx hcap
        have hFt : Hid (conS b.fs[k].K b.fs[k].R b.fs[k].ps b.px b.py b.pa px py = fat b px py b.fs[k]) := rfl
        rw [hFt.out] at cC0
        obtain ⟨d0, d1, d2, -, -, -, -, -, -, -⟩ := fx_range hr
        clear hr hr0 hq hFt hps hcap
        cases hft : fat b px py b.fs[k]
        all_goals
          rw [hft] at cC0
        · have hg2 := hg.2 hft
          clear hg hft
          generalize b.fs[k].K = K2 at *
          generalize b.fs[k].R = R2 at *
          generalize b.fs[k].A = A2 at *
          generalize b.fs[k].cap = c2 at *
          generalize b.fs[k].ps = p2 at *
          go_upto_region 10 with fail
          refine wp_region_gw (by kernel_rfl) (by kernel_rfl) ?_
          repeat (first | go_big_quiet_step ((first | (go_at_call 38; with_reducible_and_instances exact gw_call (cC0 _ (Pts.to hPk bBel))))))
          refine wpQuiet_nil ?_
          intro w1 hw1
          obtain ⟨q, rfl⟩ := hw1
          go_wp2_with fail
          all_goals exact ⟨⟨k + 1, by omega, by go_num, bBel⟩, by (try go_num); simp [intOf]; (try omega)⟩
        · have hg1 := (hg.1 hft).1
          have hg2 := (hg.1 hft).2
          clear hg hft
          generalize b.fs[k].K = K2 at *
          generalize b.fs[k].R = R2 at *
          generalize b.fs[k].A = A2 at *
          generalize b.fs[k].cap = c2 at *
          generalize b.fs[k].ps = p2 at *
          go_upto_region 10 with fail
          refine wp_region_gw (by kernel_rfl) (by kernel_rfl) ?_
          repeat (first | go_big_quiet_step ((first | (go_at_call 38; with_reducible_and_instances exact gw_call (cC0 _ (Pts.to hPk bBel))))))
          refine wpQuiet_nil ?_
          intro w1 hw1
          obtain ⟨q, rfl⟩ := hw1
          go_wp2_with fail
          all_goals exact ⟨⟨k + 1, by omega, by go_num, bBel⟩, by (try go_num); simp [intOf]; (try omega)⟩
      · obtain rfl : k = b.fs.length := by omega
        have hne : ¬ (b.fs.length : Int) < (b.fs.length : Int) := by omega
        have x0 : wr.cell? ⟨X1, 0, none⟩ = some (.int .i64 U0) := blk_cell kxR 0
        have x1 : wr.cell? ⟨X1, 1, none⟩ = some (.int .i64 U1) := blk_cell kxR 1
        have x2 : wr.cell? ⟨X1, 2, none⟩ = some (.int .i64 U2) := blk_cell kxR 2
        have x3 : wr.cell? ⟨X1, 3, none⟩ = some (.int .i64 U3) := blk_cell kxR 3
        by_cases hDn : D < 0
        · go_upto_region 13 with fail
          refine wp_region_gw (by kernel_rfl) (by kernel_rfl) ?_
          repeat (first | go_big_quiet_step ((first | (go_at_call 40; with_reducible_and_instances exact gw_call (cE _)) | (go_at_call 39; with_reducible_and_instances exact gw_call (cH _)) | (go_at_call 12; with_reducible_and_instances exact gw_call (cX _)))))
          refine wpQuiet_nil ?_
          intro w1 hw1
          obtain ⟨q, rfl⟩ := hw1
          go_wp2_with fail
          go_ret
          exact ⟨rfl, bBel⟩
        · rw [hhs.out (by omega)] at cH
          go_upto_region 13 with fail
          refine wp_region_gw (by kernel_rfl) (by kernel_rfl) ?_
          repeat (first | go_big_quiet_step ((first | (go_at_call 40; with_reducible_and_instances exact gw_call (cE _)) | (go_at_call 39; with_reducible_and_instances exact gw_call (cH _)) | (go_at_call 12; with_reducible_and_instances exact gw_call (cX _)))))
          refine wpQuiet_nil ?_
          intro w1 hw1
          obtain ⟨q, rfl⟩ := hw1
          go_wp2_with fail
          go_ret
          exact ⟨rfl, bBel⟩


end Go.Proofs.YtdmcdicphohlfaaGreat
