/- Contracts of package manifold: the closest point on a polygon's edges; a polygon and a circle. -/
import Derived.Test.YtiecpebckmihgaaGreatMnQ
set_option linter.unusedVariables false
namespace Go.Proofs.YtiecpebckmihgaaGreat
open Go.RowKit Fx

set_option maxRecDepth 100000 in
set_option maxHeartbeats 8000000 in
theorem mcpe_b (A : Option Addr) (cap : Nat) (ps : List (Int × Int)) (cx cy : Int) (h0 : 0 < ps.length) (hl : ps.length ≤ 1000000) (w : World) (ha : Pts w A ps) : Calls Tryz.prog 87 #[.slice A ps.length cap, .agg #[.int .i64 cx, .int .i64 cy]] w fun e w' => e = .returned (.agg #[.int .i64 (cloE ps cx cy (ps.length - 1)).1, .int .i64 (cloE ps cx cy (ps.length - 1)).2]) ∧ Below w.heap.size w w' := by
  obtain ⟨b, off, rfl, hc⟩ := pts_open0 ha h0
  obtain ⟨RX, hRX⟩ : ∃ R, Hid (cloE ps cx cy (ps.length - 1) = R) := ⟨_, rfl⟩
  rw [hRX.out]
  go_enter Tryz.func87, Tryz.ntmps87
  go_wp2_with fail
  refine wp_named ?_
  intro W hW
  have kC0 : blk W w.heap.size #[.int .i64 cx, .int .i64 cy] 27 := by rw [hW]; exact bBkn
  have kR0 : blk W (w.heap.size + 1) #[.int .i64 0, .int .i64 0] 27 := by rw [hW]; exact bBkn
  have kB0 : blk W (w.heap.size + 2) #[.int .i64 0, .int .i64 0] 27 := by rw [hW]; exact bBkn
  have hbW : Below w.heap.size w W := by rw [hW]; exact bBel
  clear hW
  have hszW := hbW.size
  obtain ⟨V0, hV0⟩ : ∃ v, w.heap.size = v := ⟨_, rfl⟩
  go_loopw [12] (fun i wr => ∃ (k : Nat) (p : Pt), k ≤ ps.length ∧ i = .int .i64 (k : Int) ∧ (0 < k → p = cloE ps cx cy (k - 1)) ∧ blk wr w.heap.size #[.int .i64 cx, .int .i64 cy] 27 ∧ blk wr (w.heap.size + 1) #[.int .i64 0, .int .i64 0] 27 ∧ blk wr (w.heap.size + 2) #[.int .i64 p.1, .int .i64 p.2] 27 ∧ Below w.heap.size w wr)
    (fun i _ => (ps.length - intOf i).toNat)
  case atStart => exact ⟨0, (0, 0), by omega, rfl, fun h => absurd h (by omega), kC0, kR0, kB0, hbW⟩
  case round =>
    clear kC0 kR0 kB0 hbW hszW hV0
    obtain ⟨k, p, hk, rfl, hpk, kC, kR, kB, hbR⟩ := hrel
    have hszR := hbR.size
    have j0 : (0 : Int) ≤ (k : Int) := by omega
    by_cases hlt : k < ps.length
    · have j1 : (k : Int) < (ps.length : Int) := by omega
      have hm := mod_next (k := k) h0
      have hmod := Nat.mod_lt (k + 1) h0
      have hnz : ((ps.length : Int) == 0) = false := by rw [beq_eq_false_iff_ne]; omega
      have cP := fun w' => xcp_b (hp' ps k).1 (hp' ps k).2 (hp' ps (k + 1)).1 (hp' ps (k + 1)).2 cx cy w'
      have hE : Hid (cpE ps cx cy k = (cpc (cpt (hp' ps k).1 (hp' ps k).2 (hp' ps (k + 1)).1 (hp' ps (k + 1)).2 cx cy) (hp' ps k).1 (hp' ps (k + 1)).1, cpc (cpt (hp' ps k).1 (hp' ps k).2 (hp' ps (k + 1)).1 (hp' ps (k + 1)).2 cx cy) (hp' ps k).2 (hp' ps (k + 1)).2)) := rfl
      rw [← hp_mod ps (k + 1)] at cP hE
      obtain ⟨d0, d1⟩ := hc k hlt
      obtain ⟨d2, d3⟩ := hc ((k + 1) % ps.length) hmod
      have hbP : b < w.heap.size := World.block_lt_of_cell? w ⟨b, off + k * 2, none⟩ d0
      replace d0 := (hbR.cell (p := ⟨b, off + k * 2, none⟩) hbP).trans d0
      replace d1 := (hbR.cell (p := ⟨b, off + k * 2 + 1, none⟩) hbP).trans d1
      replace d2 := (hbR.cell (p := ⟨b, off + (k + 1) % ps.length * 2, none⟩) hbP).trans d2
      replace d3 := (hbR.cell (p := ⟨b, off + (k + 1) % ps.length * 2 + 1, none⟩) hbP).trans d3
      have od := older_of_cell d0
      rw [hp_get hlt, hp_get hmod] at cP hE
      have hkm : (k : Int) + 1 ≤ (ps.length : Int) := by omega
      generalize (k + 1) % ps.length = nx at *
      have x0 : (0 : Int) ≤ (nx : Int) := by omega
      have x1 : (nx : Int) < (ps.length : Int) := by omega
      generalize cpt ps[k].1 ps[k].2 ps[nx].1 ps[nx].2 cx cy = tt at *
      generalize cpc tt ps[k].1 ps[nx].1 = X at *
      generalize cpc tt ps[k].2 ps[nx].2 = Y at *
      generalize ps[k].1 = ax at *
      generalize ps[k].2 = ay at *
      generalize ps[nx].1 = bx at *
      generalize ps[nx].2 = b_y at *
      have c1 := fun w' => dist2_b X Y cx cy w'
      have c2 := fun w' => dist2_b p.1 p.2 cx cy w'
      have okC := blk_older kC
      have ckC_0 : _ = some _ := blk_cell kC 0
      have ckC_1 : _ = some _ := blk_cell kC 1
      have fkC_0 := blk_free kC 0
      have fkC_1 := blk_free kC 1
      have okB := blk_older kB
      have ckB_0 : _ = some _ := blk_cell kB 0
      have ckB_1 : _ = some _ := blk_cell kB 1
      have fkB_0 := blk_free kB 0
      have fkB_1 := blk_free kB 1
      clear hmod
      go_upto_region 5 with fail
      refine wp_named ?_
      intro X5 hX5
      have kS : blk X5 wr.heap.size #[.int .i64 ax, .int .i64 ay] 27 := by rw [hX5]; exact bBkn
      have kC1 : blk X5 w.heap.size #[.int .i64 cx, .int .i64 cy] 27 := by rw [hX5]; exact (by apply blk_of; (repeat (first | with_reducible exact kC | with_reducible apply blk_drew | with_reducible apply blk_gw | with_reducible apply blk_alloc | with_reducible apply blk_set | ((with_reducible apply blk_other); focus omega))); (first | rfl | simp))
      have kR1 : blk X5 (w.heap.size + 1) #[.int .i64 0, .int .i64 0] 27 := by rw [hX5]; exact (by apply blk_of; (repeat (first | with_reducible exact kR | with_reducible apply blk_drew | with_reducible apply blk_gw | with_reducible apply blk_alloc | with_reducible apply blk_set | ((with_reducible apply blk_other); focus omega))); (first | rfl | simp))
      have kB1 : blk X5 (w.heap.size + 2) #[.int .i64 p.1, .int .i64 p.2] 27 := by rw [hX5]; exact (by apply blk_of; (repeat (first | with_reducible exact kB | with_reducible apply blk_drew | with_reducible apply blk_gw | with_reducible apply blk_alloc | with_reducible apply blk_set | ((with_reducible apply blk_other); focus omega))); (first | rfl | simp))
      have hb5 : Below w.heap.size w X5 := by rw [hX5]; exact bBel
      have e2 : X5.cell? ⟨b, off + nx * 2, none⟩ = some (.int .i64 bx) := by rw [hX5]; simp [go_sem, d2, od]
      have e3 : X5.cell? ⟨b, off + nx * 2 + 1, none⟩ = some (.int .i64 b_y) := by rw [hX5]; simp [go_sem, d3, od]
      have hlt5 : b < X5.heap.size := by have := hb5.size; omega
      have hcellB : ∀ w', Below X5.heap.size X5 w' → Below X5.heap.size X5 w' ∧ w'.cell? ⟨wr.heap.size, 0, none⟩ = some (.int .i64 ax) ∧ w'.cell? ⟨wr.heap.size, 1, none⟩ = some (.int .i64 ay) ∧ w'.cell? ⟨w.heap.size, 0, none⟩ = some (.int .i64 cx) ∧ w'.cell? ⟨w.heap.size, 1, none⟩ = some (.int .i64 cy) ∧ w'.cell? ⟨b, off + nx * 2, none⟩ = some (.int .i64 bx) ∧ w'.cell? ⟨b, off + nx * 2 + 1, none⟩ = some (.int .i64 b_y) := fun w' h => ⟨h, (h.cell (p := ⟨wr.heap.size, 0, none⟩) (blk_lt kS)).trans (blk_cell kS 0), (h.cell (p := ⟨wr.heap.size, 1, none⟩) (blk_lt kS)).trans (blk_cell kS 1), (h.cell (p := ⟨w.heap.size, 0, none⟩) (blk_lt kC1)).trans (blk_cell kC1 0), (h.cell (p := ⟨w.heap.size, 1, none⟩) (blk_lt kC1)).trans (blk_cell kC1 1), (h.cell (p := ⟨b, off + nx * 2, none⟩) hlt5).trans e2, (h.cell (p := ⟨b, off + nx * 2 + 1, none⟩) hlt5).trans e3⟩
      have y0 : IntKind.i64.wrap ((k : Int) + 1) = (k : Int) + 1 := by rw [IntWalk.i64_left, IntWalk.wrap64_in _ (by omega)]
      clear hX5 d0 d1 d2 d3 od okC ckC_0 ckC_1 fkC_0 fkC_1 okB ckB_0 ckB_1 fkB_0 fkB_1 kC kR kB e2 e3 hc
      go_cut [8, 9] (fun xx ti wx => ∃ E : Nat, xx = .pointer (some ⟨E, 0, none⟩) ∧ ti = .int .i64 tt ∧ X5.heap.size ≤ E ∧ blk wx E #[.int .i64 X, .int .i64 Y] 27 ∧ Below X5.heap.size X5 wx)
      case first =>
        generalize ps.length = N at *
        have hN0 : ¬ N = 0 := by omega
        go_region_held3 (fun w' => Below X5.heap.size X5 w' ∧ w'.cell? ⟨wr.heap.size, 0, none⟩ = some (.int .i64 ax) ∧ w'.cell? ⟨wr.heap.size, 1, none⟩ = some (.int .i64 ay) ∧ w'.cell? ⟨w.heap.size, 0, none⟩ = some (.int .i64 cx) ∧ w'.cell? ⟨w.heap.size, 1, none⟩ = some (.int .i64 cy) ∧ w'.cell? ⟨b, off + nx * 2, none⟩ = some (.int .i64 bx) ∧ w'.cell? ⟨b, off + nx * 2 + 1, none⟩ = some (.int .i64 b_y)) (first | (refine hcellB _ ?_; exact bBel)) ((go_at_call 121; with_reducible_and_instances refine Calls.mono (gw_at (cP _)) ?_; rintro e w1 ⟨rfl, q, rfl⟩))
        all_goals
          go_wp2_with fail
        all_goals
          go_meet
          exact ⟨_, rfl, rfl, by (try simp); (try omega), bBkn, bBel⟩
      case rest =>
      obtain ⟨E, rfl, rfl, nE, kE, hbX⟩ := hcut
      generalize wc = X6 at *
      have kC2 := blk_below hbX kC1
      have kR2 := blk_below hbX kR1
      have kB2 := blk_below hbX kB1
      have hb6 : Below w.heap.size w X6 := Below.trans hb5 (hbX.mono hb5.size)
      have hsz6 := hb6.size
      have hnE : w.heap.size + 2 < E := by have := blk_lt kB1; omega
      clear hcellB kS kC1 kR1 kB1 hb5 hbX cP hm hnz y0 x0 x1 hlt5 nE
      have okC2 := blk_older kC2
      have ckC2_0 : _ = some _ := blk_cell kC2 0
      have ckC2_1 : _ = some _ := blk_cell kC2 1
      have fkC2_0 := blk_free kC2 0
      have fkC2_1 := blk_free kC2 1
      have okB2 := blk_older kB2
      have ckB2_0 : _ = some _ := blk_cell kB2 0
      have ckB2_1 : _ = some _ := blk_cell kB2 1
      have fkB2_0 := blk_free kB2 0
      have fkB2_1 := blk_free kB2 1
      have okE := blk_older kE
      have ckE_0 : _ = some _ := blk_cell kE 0
      have ckE_1 : _ = some _ := blk_cell kE 1
      have fkE_0 := blk_free kE 0
      have fkE_1 := blk_free kE 1
      rcases Nat.eq_zero_or_pos k with hk0 | hk0
      · subst hk0
        have hq : Hid ((X, Y) = cloE ps cx cy 0) := hE.out.symm
        clear hE hpk c1 c2
        go_wp2_with fail
        refine wp_region_gw (by kernel_rfl) (by kernel_rfl) ?_
        repeat (go_big_quiet_step ((first | (go_at_call 40; with_reducible_and_instances exact gw_call (c1 _)))))
        refine wpQuiet_nil ?_
        intro w1 hw1
        obtain ⟨q, rfl⟩ := hw1
        go_wp2_with fail
        exact ⟨⟨1, (X, Y), by omega, by go_num, fun _ => hq.out, (by apply blk_of; (repeat (first | with_reducible exact kC2 | with_reducible apply blk_drew | with_reducible apply blk_gw | with_reducible apply blk_alloc | with_reducible apply blk_set | ((with_reducible apply blk_other); focus omega))); (first | rfl | simp)), (by apply blk_of; (repeat (first | with_reducible exact kR2 | with_reducible apply blk_drew | with_reducible apply blk_gw | with_reducible apply blk_alloc | with_reducible apply blk_set | ((with_reducible apply blk_other); focus omega))); (first | rfl | simp)), (by apply blk_of; (repeat (first | with_reducible exact kB2 | with_reducible apply blk_drew | with_reducible apply blk_gw | with_reducible apply blk_alloc | with_reducible apply blk_set | ((with_reducible apply blk_other); focus omega))); (first | rfl | simp)), bBel⟩, by (try go_num); simp [intOf]; (try omega)⟩
      · have hz : (((k : Int)) == 0) = false := by rw [beq_eq_false_iff_ne]; omega
        have hp := hpk hk0
        have hstep : Hid (cloE ps cx cy k = if dist2 (cpE ps cx cy k).1 (cpE ps cx cy k).2 cx cy < dist2 (cloE ps cx cy (k - 1)).1 (cloE ps cx cy (k - 1)).2 cx cy then cpE ps cx cy k else cloE ps cx cy (k - 1)) := by
          obtain ⟨j, rfl⟩ : ∃ j, k = j + 1 := ⟨k - 1, by omega⟩
          rfl
        have hst2 := hstep.out
        rw [hE.out, ← hp] at hst2
        clear hE hpk hp hstep
        have hst3 : Hid (cloE ps cx cy k = if dist2 X Y cx cy < dist2 p.1 p.2 cx cy then (X, Y) else p) := hst2
        clear hst2
        by_cases c : dist2 X Y cx cy < dist2 p.1 p.2 cx cy
        · have hq : Hid ((X, Y) = cloE ps cx cy k) := by have := hst3.out; rw [if_pos c] at this; exact this.symm
          have hc1 : decide (dist2 X Y cx cy < dist2 p.1 p.2 cx cy) = true := decide_eq_true c
          clear hst3
          generalize dist2 X Y cx cy = D1 at *
          generalize dist2 p.1 p.2 cx cy = D2 at *
          go_wp2_with fail
          refine wp_region_gw (by kernel_rfl) (by kernel_rfl) ?_
          repeat (go_big_quiet_step ((first | (go_at_call 40; with_reducible_and_instances exact gw_call (c1 _)) | (go_at_call 40; with_reducible_and_instances exact gw_call (c2 _)))))
          refine wpQuiet_nil ?_
          intro w1 hw1
          obtain ⟨q, rfl⟩ := hw1
          go_wp2_with fail
          exact ⟨⟨k + 1, (X, Y), by omega, by go_num, fun _ => by rw [Nat.add_sub_cancel]; exact hq.out, (by apply blk_of; (repeat (first | with_reducible exact kC2 | with_reducible apply blk_drew | with_reducible apply blk_gw | with_reducible apply blk_alloc | with_reducible apply blk_set | ((with_reducible apply blk_other); focus omega))); (first | rfl | simp)), (by apply blk_of; (repeat (first | with_reducible exact kR2 | with_reducible apply blk_drew | with_reducible apply blk_gw | with_reducible apply blk_alloc | with_reducible apply blk_set | ((with_reducible apply blk_other); focus omega))); (first | rfl | simp)), (by apply blk_of; (repeat (first | with_reducible exact kB2 | with_reducible apply blk_drew | with_reducible apply blk_gw | with_reducible apply blk_alloc | with_reducible apply blk_set | ((with_reducible apply blk_other); focus omega))); (first | rfl | simp)), bBel⟩, by (try go_num); simp [intOf]; (try omega)⟩
        · have hq : Hid (p = cloE ps cx cy k) := by have := hst3.out; rw [if_neg c] at this; exact this.symm
          have hc1 : decide (dist2 X Y cx cy < dist2 p.1 p.2 cx cy) = false := decide_eq_false c
          clear hst3
          generalize dist2 X Y cx cy = D1 at *
          generalize dist2 p.1 p.2 cx cy = D2 at *
          go_wp2_with fail
          refine wp_region_gw (by kernel_rfl) (by kernel_rfl) ?_
          repeat (go_big_quiet_step ((first | (go_at_call 40; with_reducible_and_instances exact gw_call (c1 _)) | (go_at_call 40; with_reducible_and_instances exact gw_call (c2 _)))))
          refine wpQuiet_nil ?_
          intro w1 hw1
          obtain ⟨q, rfl⟩ := hw1
          go_wp2_with fail
          exact ⟨⟨k + 1, p, by omega, by go_num, fun _ => by rw [Nat.add_sub_cancel]; exact hq.out, (by apply blk_of; (repeat (first | with_reducible exact kC2 | with_reducible apply blk_drew | with_reducible apply blk_gw | with_reducible apply blk_alloc | with_reducible apply blk_set | ((with_reducible apply blk_other); focus omega))); (first | rfl | simp)), (by apply blk_of; (repeat (first | with_reducible exact kR2 | with_reducible apply blk_drew | with_reducible apply blk_gw | with_reducible apply blk_alloc | with_reducible apply blk_set | ((with_reducible apply blk_other); focus omega))); (first | rfl | simp)), (by apply blk_of; (repeat (first | with_reducible exact kB2 | with_reducible apply blk_drew | with_reducible apply blk_gw | with_reducible apply blk_alloc | with_reducible apply blk_set | ((with_reducible apply blk_other); focus omega))); (first | rfl | simp)), bBel⟩, by (try go_num); simp [intOf]; (try omega)⟩
    · obtain rfl : k = ps.length := by omega
      have j1 : ¬ (ps.length : Int) < (ps.length : Int) := by omega
      have hq : RX = p := hRX.out.symm.trans (hpk h0).symm
      subst hq
      clear hpk hc ha hRX
      have okB := blk_older kB
      have ckB_0 : _ = some _ := blk_cell kB 0
      have ckB_1 : _ = some _ := blk_cell kB 1
      have fkB_0 := blk_free kB 0
      have fkB_1 := blk_free kB 1
      have okR := blk_older kR
      have ckR_0 : _ = some _ := blk_cell kR 0
      have ckR_1 : _ = some _ := blk_cell kR 1
      have fkR_0 := blk_free kR 0
      have fkR_1 := blk_free kR 1
      go_wp2_with fail
      refine post_named ?_
      intro Z hZ
      have kZ : blk Z (w.heap.size + 1) #[.int .i64 RX.1, .int .i64 RX.2] 27 := by rw [hZ]; exact (by apply blk_of; (repeat (first | with_reducible exact kR | with_reducible apply blk_drew | with_reducible apply blk_gw | with_reducible apply blk_alloc | with_reducible apply blk_set | ((with_reducible apply blk_other); focus omega))); (first | rfl | simp))
      have hbZ : Below w.heap.size w Z := by rw [hZ]; exact bBel
      clear hZ
      have okZ := blk_older kZ
      have ckZ_0 : _ = some _ := blk_cell kZ 0
      have ckZ_1 : _ = some _ := blk_cell kZ 1
      have fkZ_0 := blk_free kZ 0
      have fkZ_1 := blk_free kZ 1
      exact bodyPost_ret (v := .agg #[.int .i64 RX.1, .int .i64 RX.2]) (by simp [results, Tryz.results87, go_sem, ckZ_0, ckZ_1]) rfl ⟨rfl, hbZ⟩

theorem dirO_polN (x1 x2 cx cy g1 g2 : Int) (h1 : sat x1 = x1) (h2 : sat x2 = x2) (h3 : sat cx = cx) (h4 : sat cy = cy) : dirO x1 x2 cx cy g1 g2 = if vlen (sub cx x1) (sub cy x2) ≠ 0 then (unit (sub cx x1) (vlen (sub cx x1) (sub cy x2)), unit (sub cy x2) (vlen (sub cx x1) (sub cy x2))) else (g1, g2) := by
  unfold dirO
  have e : (x1 = cx ∧ x2 = cy) ↔ vlen (sub cx x1) (sub cy x2) = 0 := by
    rw [vlen_zero, sub_zero_iff h3 h1, sub_zero_iff h4 h2]
    exact ⟨fun h => ⟨h.1.symm, h.2.symm⟩, fun h => ⟨h.1.symm, h.2.symm⟩⟩
  by_cases h : x1 = cx ∧ x2 = cy
  · rw [if_pos h, if_neg (fun g => g (e.1 h))]
  · rw [if_neg h, if_pos (fun g => h (e.2 g))]
theorem cloE_sat (a : List Pt) (cx cy : Int) : ∀ k, sat (cloE a cx cy k).1 = (cloE a cx cy k).1 ∧ sat (cloE a cx cy k).2 = (cloE a cx cy k).2
  | 0 => ⟨cpc_sat, cpc_sat⟩
  | k + 1 => by
    unfold cloE; split
    · exact ⟨cpc_sat, cpc_sat⟩
    · exact cloE_sat a cx cy k

end Go.Proofs.YtiecpebckmihgaaGreat
