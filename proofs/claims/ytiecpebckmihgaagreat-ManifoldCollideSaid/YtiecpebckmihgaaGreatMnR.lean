/- Contracts of package manifold: round shapes. -/
import Derived.Test.YtiecpebckmihgaaGreatMnQ
set_option linter.unusedVariables false
namespace Go.Proofs.YtiecpebckmihgaaGreat
open Go.RowKit Fx

theorem dirO_segN (px py qx qy : Int) (h1 : sat px = px) (h2 : sat py = py) (h3 : sat qx = qx) (h4 : sat qy = qy) : dirO px py qx qy 0 65536 = segN (sub qx px, sub qy py) := by
  unfold dirO segN
  have e : (px = qx ∧ py = qy) ↔ vlen (sub qx px) (sub qy py) = 0 := by
    rw [vlen_zero, sub_zero_iff h3 h1, sub_zero_iff h4 h2]
    exact ⟨fun h => ⟨h.1.symm, h.2.symm⟩, fun h => ⟨h.1.symm, h.2.symm⟩⟩
  by_cases h : px = qx ∧ py = qy
  · rw [if_pos h, if_pos (e.1 h)]
  · rw [if_neg h, if_neg (fun g => h (e.2 g))]
theorem cps_sat (ax ay bx b_y cx cy dx dy : Int) : (sat (cps ax ay bx b_y cx cy dx dy).px = (cps ax ay bx b_y cx cy dx dy).px ∧ sat (cps ax ay bx b_y cx cy dx dy).py = (cps ax ay bx b_y cx cy dx dy).py) ∧ sat (cps ax ay bx b_y cx cy dx dy).qx = (cps ax ay bx b_y cx cy dx dy).qx ∧ sat (cps ax ay bx b_y cx cy dx dy).qy = (cps ax ay bx b_y cx cy dx dy).qy := by
  unfold cps
  split
  · exact ⟨⟨lerp_sat _ _ _, lerp_sat _ _ _⟩, lerp_sat _ _ _, lerp_sat _ _ _⟩
  · have pk : ∀ o n : Pp, ((sat o.px = o.px ∧ sat o.py = o.py) ∧ sat o.qx = o.qx ∧ sat o.qy = o.qy) → ((sat n.px = n.px ∧ sat n.py = n.py) ∧ sat n.qx = n.qx ∧ sat n.qy = n.qy) → ((sat (o.pick n).px = (o.pick n).px ∧ sat (o.pick n).py = (o.pick n).py) ∧ sat (o.pick n).qx = (o.pick n).qx ∧ sat (o.pick n).qy = (o.pick n).qy) := fun o n h1 h2 => by
      unfold Pp.pick; split
      · exact h2
      · exact h1
    unfold best
    refine pk _ _ (pk _ _ (pk _ _ ?_ ?_) ?_) ?_
    · exact ⟨⟨sat_sat _, sat_sat _⟩, cpc_sat, cpc_sat⟩
    · exact ⟨⟨sat_sat _, sat_sat _⟩, cpc_sat, cpc_sat⟩
    · exact ⟨⟨cpc_sat, cpc_sat⟩, sat_sat _, sat_sat _⟩
    · exact ⟨⟨cpc_sat, cpc_sat⟩, sat_sat _, sat_sat _⟩

set_option maxRecDepth 100000 in
set_option maxHeartbeats 8000000 in
theorem mrnd_b (Ka Ra Kb Rb : Int) (A B_ : Option Addr) (ca cb m n : Nat) (ps qs : List (Int × Int)) (hm : ps.length = m + 1) (hn : qs.length = n + 1) (hl : m ≤ 1000) (hk : n ≤ 1000) (w : World) (ha : Pts w A ps) (hb : Pts w B_ qs) :
    Calls Tryz.prog 42 #[.agg #[.int .i64 Ka, .slice A (m + 1) ca, .int .i64 Ra], .agg #[.int .i64 Kb, .slice B_ (n + 1) cb, .int .i64 Rb]] w (MnR w (segM (cps (hp' ps 0).1 (hp' ps 0).2 (hp' ps m).1 (hp' ps m).2 (hp' qs 0).1 (hp' qs 0).2 (hp' qs n).1 (hp' qs n).2) Ra Rb)) := by
  have cP := fun w' => xcps_b (hp' ps 0).1 (hp' ps 0).2 (hp' ps m).1 (hp' ps m).2 (hp' qs 0).1 (hp' qs 0).2 (hp' qs n).1 (hp' qs n).2 w'
  obtain ⟨⟨s1, s2⟩, s3, s4⟩ := cps_sat (hp' ps 0).1 (hp' ps 0).2 (hp' ps m).1 (hp' ps m).2 (hp' qs 0).1 (hp' qs 0).2 (hp' qs n).1 (hp' qs n).2
  generalize cps (hp' ps 0).1 (hp' ps 0).2 (hp' ps m).1 (hp' ps m).2 (hp' qs 0).1 (hp' qs 0).2 (hp' qs n).1 (hp' qs n).2 = P at *
  obtain ⟨px, py, qx, qy⟩ := P
  dsimp only at s1 s2 s3 s4 cP
  have cD := fun w' => mdir_b px py qx qy 0 65536 w'
  rw [dirO_segN px py qx qy s1 s2 s3 s4] at cD
  have cL := fun w' => mdist_b px py qx qy w'
  have c1 := fun w' => sub_b (vlen (sub qx px) (sub qy py)) Ra w'
  have c2 := fun w' => sub_b (sub (vlen (sub qx px) (sub qy py)) Ra) Rb w'
  have c3 := fun w' => mhalf_b (segG (sub qx px, sub qy py) Ra Rb) w'
  have c4 := fun w' => add_b Ra (rdiv (segG (sub qx px, sub qy py) Ra Rb) 2) w'
  obtain ⟨R, hR⟩ : ∃ R, Hid (segM ⟨px, py, qx, qy⟩ Ra Rb = R) := ⟨_, rfl⟩
  rw [hR.out]
  have hR2 : oneM (segN (sub qx px, sub qy py)).1 (segN (sub qx px, sub qy py)).2 (add px (mul (segN (sub qx px, sub qy py)).1 (add Ra (rdiv (segG (sub qx px, sub qy py) Ra Rb) 2)))) (add py (mul (segN (sub qx px, sub qy py)).2 (add Ra (rdiv (segG (sub qx px, sub qy py) Ra Rb) 2)))) (segG (sub qx px, sub qy py) Ra Rb) = R := hR.out
  have hG : segG (sub qx px, sub qy py) Ra Rb = sub (sub (vlen (sub qx px) (sub qy py)) Ra) Rb := rfl
  rw [← hG] at c2
  clear hG hR s1 s2 s3 s4
  generalize vlen (sub qx px) (sub qy py) = l at *
  generalize sub l Ra = l1 at *
  generalize segG (sub qx px, sub qy py) Ra Rb = G at *
  generalize (segN (sub qx px, sub qy py)).1 = nx at *
  generalize (segN (sub qx px, sub qy py)).2 = ny at *
  generalize rdiv G 2 = h at *
  generalize add Ra h = ah at *
  have hPX : ∃ x, add px (mul nx ah) = x := ⟨_, rfl⟩
  obtain ⟨x, hX⟩ := hPX
  have hPY : ∃ y, add py (mul ny ah) = y := ⟨_, rfl⟩
  obtain ⟨y, hY⟩ := hPY
  rw [hX, hY] at hR2
  have cA0 := fun bx => madd0_b bx px py ah G 0
  have cA1 := fun bx M B v hs w' => madd1_b bx M B nx ny v 0 [] px py ah G 0 x y hs hX hY w'
  clear hX hY
  have hcA0 : Hid (∀ bx (hs : 1024 < G) (w' : World), _) := cA0
  have hcA1 : Hid (∀ bx M B (v : Value) (hs : ¬ 1024 < G) (w' : World), _) := cA1
  replace hR2 : Hid (_ = R) := hR2
  clear cA0 cA1
  obtain ⟨b, off, rfl, hc⟩ := pts_open0 ha (by omega)
  obtain ⟨b', off', rfl, hc'⟩ := pts_open0 hb (by omega)
  obtain ⟨d0, d1⟩ := hc 0 (by omega)
  obtain ⟨d2, d3⟩ := hc m (by omega)
  obtain ⟨f0, f1⟩ := hc' 0 (by omega)
  obtain ⟨f2, f3⟩ := hc' n (by omega)
  rw [hp_get (show 0 < ps.length by omega), hp_get (show m < ps.length by omega), hp_get (show 0 < qs.length by omega), hp_get (show n < qs.length by omega)] at cP
  have od := older_of_cell d0
  have of := older_of_cell f0
  rw [Nat.zero_mul, Nat.add_zero] at d0 d1 f0 f1
  have hbP : b < w.heap.size := World.block_lt_of_cell? w ⟨b, off, none⟩ d0
  have hbQ : b' < w.heap.size := World.block_lt_of_cell? w ⟨b', off', none⟩ f0
  generalize (ps[0]'(by omega)).1 = ax0 at *
  generalize (ps[0]'(by omega)).2 = ay0 at *
  generalize (ps[m]'(by omega)).1 = ax1 at *
  generalize (ps[m]'(by omega)).2 = ay1 at *
  generalize (qs[0]'(by omega)).1 = bx0 at *
  generalize (qs[0]'(by omega)).2 = by0 at *
  generalize (qs[n]'(by omega)).1 = bx1 at *
  generalize (qs[n]'(by omega)).2 = by1 at *
  have y0 : IntKind.i64.wrap ((m : Int) + 1 - 1) = (m : Int) := by rw [IntWalk.i64_left, IntWalk.wrap64_in _ (by omega)]; omega
  have y1 : IntKind.i64.wrap ((n : Int) + 1 - 1) = (n : Int) := by rw [IntWalk.i64_left, IntWalk.wrap64_in _ (by omega)]; omega
  have y2 : IntKind.i64.wrap (m : Int) = (m : Int) := by rw [IntWalk.i64_left, IntWalk.wrap64_in _ (by omega)]
  have y3 : IntKind.i64.wrap (n : Int) = (n : Int) := by rw [IntWalk.i64_left, IntWalk.wrap64_in _ (by omega)]
  have x0 : (0 : Int) ≤ (m : Int) := by omega
  have x1 : (m : Int) < (m : Int) + 1 := by omega
  have x2 : (0 : Int) ≤ (n : Int) := by omega
  have x3 : (n : Int) < (n : Int) + 1 := by omega
  have x4 : (0 : Int) < (m : Int) + 1 := by omega
  have x5 : (0 : Int) < (n : Int) + 1 := by omega
  clear hc hc' hm hn ha hb
  go_enter Tryz.func42, Tryz.ntmps42
  go_upto_region 1 with fail
  refine wp_named ?_
  intro W hW
  have kA : blk W w.heap.size #[.int .i64 Ka, .slice (some ⟨b, off, none⟩) (m + 1) ca, .int .i64 Ra] 50 := by rw [hW]; exact bBkn
  have kB0 : blk W (w.heap.size + 1) #[.int .i64 Kb, .slice (some ⟨b', off', none⟩) (n + 1) cb, .int .i64 Rb] 50 := by rw [hW]; exact bBkn
  have kR : blk W (w.heap.size + 2) #[.int .i64 0, .int .i64 0, .slice none 0 0] 34 := by rw [hW]; exact bBkn
  have hbW : Below w.heap.size w W := by rw [hW]; exact bBel
  have hszW : w.heap.size + 3 ≤ W.heap.size := by rw [hW]; simp
  clear hW
  replace d0 := (hbW.cell (p := ⟨b, off, none⟩) hbP).trans d0
  replace d1 := (hbW.cell (p := ⟨b, off + 1, none⟩) hbP).trans d1
  replace d2 := (hbW.cell (p := ⟨b, off + m * 2, none⟩) hbP).trans d2
  replace d3 := (hbW.cell (p := ⟨b, off + m * 2 + 1, none⟩) hbP).trans d3
  replace f0 := (hbW.cell (p := ⟨b', off', none⟩) hbQ).trans f0
  replace f1 := (hbW.cell (p := ⟨b', off' + 1, none⟩) hbQ).trans f1
  replace f2 := (hbW.cell (p := ⟨b', off' + n * 2, none⟩) hbQ).trans f2
  replace f3 := (hbW.cell (p := ⟨b', off' + n * 2 + 1, none⟩) hbQ).trans f3
  replace od := older_of_cell d0
  replace of := older_of_cell f0
  have hcellB : ∀ w', Below W.heap.size W w' → Below W.heap.size W w' ∧ w'.cell? ⟨w.heap.size, 1, none⟩ = some (.slice (some ⟨b, off, none⟩) (m + 1) ca) ∧ w'.cell? ⟨w.heap.size + 1, 1, none⟩ = some (.slice (some ⟨b', off', none⟩) (n + 1) cb) ∧ w'.cell? ⟨b, off, none⟩ = some (.int .i64 ax0) ∧ w'.cell? ⟨b, off + 1, none⟩ = some (.int .i64 ay0) ∧ w'.cell? ⟨b, off + m * 2, none⟩ = some (.int .i64 ax1) ∧ w'.cell? ⟨b, off + m * 2 + 1, none⟩ = some (.int .i64 ay1) ∧ w'.cell? ⟨b', off', none⟩ = some (.int .i64 bx0) ∧ w'.cell? ⟨b', off' + 1, none⟩ = some (.int .i64 by0) ∧ w'.cell? ⟨b', off' + n * 2, none⟩ = some (.int .i64 bx1) ∧ w'.cell? ⟨b', off' + n * 2 + 1, none⟩ = some (.int .i64 by1) := fun w' h => ⟨h, (h.cell (p := ⟨w.heap.size, 1, none⟩) (blk_lt kA)).trans (blk_cell kA 1), (h.cell (p := ⟨w.heap.size + 1, 1, none⟩) (blk_lt kB0)).trans (blk_cell kB0 1), (h.cell (p := ⟨b, off, none⟩) (by show b < _; omega)).trans d0, (h.cell (p := ⟨b, off + 1, none⟩) (by show b < _; omega)).trans d1, (h.cell (p := ⟨b, off + m * 2, none⟩) (by show b < _; omega)).trans d2, (h.cell (p := ⟨b, off + m * 2 + 1, none⟩) (by show b < _; omega)).trans d3, (h.cell (p := ⟨b', off', none⟩) (by show b' < _; omega)).trans f0, (h.cell (p := ⟨b', off' + 1, none⟩) (by show b' < _; omega)).trans f1, (h.cell (p := ⟨b', off' + n * 2, none⟩) (by show b' < _; omega)).trans f2, (h.cell (p := ⟨b', off' + n * 2 + 1, none⟩) (by show b' < _; omega)).trans f3⟩
  clear d0 d1 d2 d3 f0 f1 f2 f3 od of
  obtain ⟨-, g0, g1, d0, d1, d2, d3, f0, f1, f2, f3⟩ := hcellB _ (Below.refl _ W)
  go_cut [5, 6] (fun fr tp wx => ∃ E F : Nat, fr = .pointer (some ⟨E, 0, none⟩) ∧ tp = .pointer (some ⟨F, 0, none⟩) ∧ W.heap.size ≤ E ∧ W.heap.size ≤ F ∧ blk wx E #[.int .i64 px, .int .i64 py] 27 ∧ blk wx F #[.int .i64 qx, .int .i64 qy] 27 ∧ Below W.heap.size W wx)
  case first =>
    go_region_held3 (fun w' => Below W.heap.size W w' ∧ w'.cell? ⟨w.heap.size, 1, none⟩ = some (.slice (some ⟨b, off, none⟩) (m + 1) ca) ∧ w'.cell? ⟨w.heap.size + 1, 1, none⟩ = some (.slice (some ⟨b', off', none⟩) (n + 1) cb) ∧ w'.cell? ⟨b, off, none⟩ = some (.int .i64 ax0) ∧ w'.cell? ⟨b, off + 1, none⟩ = some (.int .i64 ay0) ∧ w'.cell? ⟨b, off + m * 2, none⟩ = some (.int .i64 ax1) ∧ w'.cell? ⟨b, off + m * 2 + 1, none⟩ = some (.int .i64 ay1) ∧ w'.cell? ⟨b', off', none⟩ = some (.int .i64 bx0) ∧ w'.cell? ⟨b', off' + 1, none⟩ = some (.int .i64 by0) ∧ w'.cell? ⟨b', off' + n * 2, none⟩ = some (.int .i64 bx1) ∧ w'.cell? ⟨b', off' + n * 2 + 1, none⟩ = some (.int .i64 by1)) (first | (refine hcellB _ ?_; exact bBel)) ((go_at_call 41; with_reducible_and_instances refine Calls.mono (gw_at (cP _)) ?_; rintro e w1 ⟨rfl, q, rfl⟩))
    all_goals
      go_wp2_with fail
    all_goals
      go_meet
      exact ⟨_, _, rfl, rfl, by (try simp); (try omega), by (try simp); (try omega), bBkn, bBkn, bBel⟩
  case rest =>
  obtain ⟨E, F, rfl, rfl, nE, nF, kE, kF, hbX⟩ := hcut
  generalize wc = X at *
  have kA1 := blk_below hbX kA
  have kB1 := blk_below hbX kB0
  have kR1 := blk_below hbX kR
  have hbX2 : Below w.heap.size w X := Below.trans hbW (hbX.mono hbW.size)
  clear d0 d1 d2 d3 f0 f1 f2 f3 g0 g1 hcellB kA kB0 kR hbX hbW cP x0 x1 x2 x3 x4 x5 y0 y1 y2 y3
  have okE := blk_older kE
  have ckE_0 : _ = some _ := blk_cell kE 0
  have ckE_1 : _ = some _ := blk_cell kE 1
  have fkE_0 := blk_free kE 0
  have fkE_1 := blk_free kE 1
  have okF := blk_older kF
  have ckF_0 : _ = some _ := blk_cell kF 0
  have ckF_1 : _ = some _ := blk_cell kF 1
  have fkF_0 := blk_free kF 0
  have fkF_1 := blk_free kF 1
  have okA1 := blk_older kA1
  have ckA1_0 : _ = some _ := blk_cell kA1 0
  have ckA1_1 : _ = some _ := blk_cell kA1 1
  have ckA1_2 : _ = some _ := blk_cell kA1 2
  have fkA1_0 := blk_free kA1 0
  have fkA1_1 := blk_free kA1 1
  have fkA1_2 := blk_free kA1 2
  have okB1 := blk_older kB1
  have ckB1_0 : _ = some _ := blk_cell kB1 0
  have ckB1_1 : _ = some _ := blk_cell kB1 1
  have ckB1_2 : _ = some _ := blk_cell kB1 2
  have fkB1_0 := blk_free kB1 0
  have fkB1_1 := blk_free kB1 1
  have fkB1_2 := blk_free kB1 2
  go_upto_region 4 with (first | (go_at_call 80; refine Calls.mono (gw_at (cD _)) ?_; rintro e w1 ⟨rfl, q, rfl⟩) | (go_at_call 81; refine Calls.mono (madder_b _ _) ?_; rintro e w1 ⟨rfl, rfl⟩))
  refine wp_named ?_
  intro V hV
  have kM : blk V (X.heap.size + q.os.size) #[.int .i64 nx, .int .i64 ny, .slice none 0 0] 34 := by rw [hV]; exact bBkn
  have kx : blk V (X.heap.size + q.os.size + 1) #[.pointer (some ⟨X.heap.size + q.os.size, 0, none⟩)] 98 := by rw [hV]; exact bBkn
  have kE2 : blk V E #[.int .i64 px, .int .i64 py] 27 := by rw [hV]; exact (by apply blk_of; (repeat (first | with_reducible exact kE | with_reducible apply blk_drew | with_reducible apply blk_gw | with_reducible apply blk_alloc | with_reducible apply blk_set | ((with_reducible apply blk_other); focus omega))); (first | rfl | simp))
  have kF2 : blk V F #[.int .i64 qx, .int .i64 qy] 27 := by rw [hV]; exact (by apply blk_of; (repeat (first | with_reducible exact kF | with_reducible apply blk_drew | with_reducible apply blk_gw | with_reducible apply blk_alloc | with_reducible apply blk_set | ((with_reducible apply blk_other); focus omega))); (first | rfl | simp))
  have kA2 : blk V w.heap.size #[.int .i64 Ka, .slice (some ⟨b, off, none⟩) (m + 1) ca, .int .i64 Ra] 50 := by rw [hV]; exact (by apply blk_of; (repeat (first | with_reducible exact kA1 | with_reducible apply blk_drew | with_reducible apply blk_gw | with_reducible apply blk_alloc | with_reducible apply blk_set | ((with_reducible apply blk_other); focus omega))); (first | rfl | simp))
  have kB2 : blk V (w.heap.size + 1) #[.int .i64 Kb, .slice (some ⟨b', off', none⟩) (n + 1) cb, .int .i64 Rb] 50 := by rw [hV]; exact (by apply blk_of; (repeat (first | with_reducible exact kB1 | with_reducible apply blk_drew | with_reducible apply blk_gw | with_reducible apply blk_alloc | with_reducible apply blk_set | ((with_reducible apply blk_other); focus omega))); (first | rfl | simp))
  have kR2 : blk V (w.heap.size + 2) #[.int .i64 0, .int .i64 0, .slice none 0 0] 34 := by rw [hV]; exact (by apply blk_of; (repeat (first | with_reducible exact kR1 | with_reducible apply blk_drew | with_reducible apply blk_gw | with_reducible apply blk_alloc | with_reducible apply blk_set | ((with_reducible apply blk_other); focus omega))); (first | rfl | simp))
  have hszX := hbX2.size
  have hbV : Below w.heap.size w V := by rw [hV]; exact bBel
  have hMX : w.heap.size + 3 ≤ X.heap.size + q.os.size := by have := blk_lt kR1; omega
  clear hV okE ckE_0 ckE_1 fkE_0 fkE_1 okF ckF_0 ckF_1 fkF_0 fkF_1 okA1 ckA1_0 ckA1_1 ckA1_2 fkA1_0 fkA1_1 fkA1_2 okB1 ckB1_0 ckB1_1 ckB1_2 fkB1_0 fkB1_1 fkB1_2 kE kF kA1 kB1 kR1 hbX2 nE nF
  generalize X.heap.size + q.os.size = M at *
  have hMV := blk_lt kx
  have okE2 := blk_older kE2
  have ckE2_0 : _ = some _ := blk_cell kE2 0
  have ckE2_1 : _ = some _ := blk_cell kE2 1
  have fkE2_0 := blk_free kE2 0
  have fkE2_1 := blk_free kE2 1
  have okF2 := blk_older kF2
  have ckF2_0 : _ = some _ := blk_cell kF2 0
  have ckF2_1 : _ = some _ := blk_cell kF2 1
  have fkF2_0 := blk_free kF2 0
  have fkF2_1 := blk_free kF2 1
  have okA2 := blk_older kA2
  have ckA2_0 : _ = some _ := blk_cell kA2 0
  have ckA2_1 : _ = some _ := blk_cell kA2 1
  have ckA2_2 : _ = some _ := blk_cell kA2 2
  have fkA2_0 := blk_free kA2 0
  have fkA2_1 := blk_free kA2 1
  have fkA2_2 := blk_free kA2 2
  have okB2 := blk_older kB2
  have ckB2_0 : _ = some _ := blk_cell kB2 0
  have ckB2_1 : _ = some _ := blk_cell kB2 1
  have ckB2_2 : _ = some _ := blk_cell kB2 2
  have fkB2_0 := blk_free kB2 0
  have fkB2_1 := blk_free kB2 1
  have fkB2_2 := blk_free kB2 2
  refine wp_region_gw (by kernel_rfl) (by kernel_rfl) ?_
  repeat (go_big_quiet_step ((first | (go_at_call 82; with_reducible_and_instances exact gw_call (cL _)) | (go_at_call 17; with_reducible_and_instances exact gw_call (c1 _)) | (go_at_call 17; with_reducible_and_instances exact gw_call (c2 _)))))
  refine wpQuiet_nil ?_
  intro w1 hw1
  obtain ⟨q, rfl⟩ := hw1
  go_wp2_with fail
  refine wp_region_gw_tail 8 (by kernel_rfl) (by kernel_rfl) ?_
  simp only [List.take_succ_cons, List.take_zero, List.drop_succ_cons, List.drop_zero]
  repeat (go_big_quiet_step ((first | (go_at_call 84; with_reducible_and_instances exact gw_call (c3 _)) | (go_at_call 83; with_reducible_and_instances exact gw_call (c4 _)))))
  refine wpQuiet_nil ?_
  intro w1 hw1
  obtain ⟨q, rfl⟩ := hw1
  refine list_nm ?_
  intro Y hY
  have hbY : Below V.heap.size V Y := by rw [hY]; exact bBel
  clear hY okE2 ckE2_0 ckE2_1 fkE2_0 fkE2_1 okF2 ckF2_0 ckF2_1 fkF2_0 fkF2_1 okA2 ckA2_0 ckA2_1 ckA2_2 fkA2_0 fkA2_1 fkA2_2 okB2 ckB2_0 ckB2_1 ckB2_2 fkB2_0 fkB2_1 fkB2_2 c1 c2 c3 c4 cL cD kE2 kF2 kA2 kB2
  have kM3 := blk_below hbY kM
  have kx3 := blk_below hbY kx
  have kR3 := blk_below hbY kR2
  have hbY2 : Below w.heap.size w Y := Below.trans hbV (hbY.mono hbV.size)
  have hszY := hbY.size
  clear hbY kM kx kR2 hbV
  have hR := hR2.out
  clear hR2
  by_cases hG : 1024 < G
  · obtain rfl : R = ⟨nx, ny, []⟩ := by rw [← hR]; unfold oneM; rw [if_pos hG]
    have cA := fun w' => hcA0.out (M + 1) (by omega) w'
    clear hcA0 hcA1 hR hG
    have okM3 := blk_older kM3
    have ckM3_0 : _ = some _ := blk_cell kM3 0
    have ckM3_1 : _ = some _ := blk_cell kM3 1
    have ckM3_2 : _ = some _ := blk_cell kM3 2
    have fkM3_0 := blk_free kM3 0
    have fkM3_1 := blk_free kM3 1
    have fkM3_2 := blk_free kM3 2
    have okR3 := blk_older kR3
    have ckR3_0 : _ = some _ := blk_cell kR3 0
    have ckR3_1 : _ = some _ := blk_cell kR3 1
    have ckR3_2 : _ = some _ := blk_cell kR3 2
    have fkR3_0 := blk_free kR3 0
    have fkR3_1 := blk_free kR3 1
    have fkR3_2 := blk_free kR3 2
    go_wp2_with (go_at_call 123; refine Calls.mono (gw_at (cA _)) ?_; rintro e w1 ⟨rfl, q2, rfl⟩)
    refine post_named ?_
    intro Z hZ
    have kZ : blk Z (w.heap.size + 2) #[.int .i64 nx, .int .i64 ny, .slice none 0 0] 34 := by rw [hZ]; exact (by apply blk_of; (repeat (first | with_reducible exact kR3 | with_reducible apply blk_drew | with_reducible apply blk_gw | with_reducible apply blk_alloc | with_reducible apply blk_set | ((with_reducible apply blk_other); focus omega))); (first | rfl | simp))
    have hbZ : Below w.heap.size w Z := by rw [hZ]; exact bBel
    clear hZ
    have okZ := blk_older kZ
    have ckZ_0 : _ = some _ := blk_cell kZ 0
    have ckZ_1 : _ = some _ := blk_cell kZ 1
    have ckZ_2 : _ = some _ := blk_cell kZ 2
    have fkZ_0 := blk_free kZ 0
    have fkZ_1 := blk_free kZ 1
    have fkZ_2 := blk_free kZ 2
    exact bodyPost_ret (v := .agg #[.int .i64 nx, .int .i64 ny, .slice none 0 0]) (by simp [results, Tryz.results42, go_sem, ckZ_0, ckZ_1, ckZ_2]) rfl (mnr_mk (l := []) (Nat.le_refl _) (by decide) (fun _ => rfl) (.inl rfl) hbZ)
  · obtain rfl : R = ⟨nx, ny, [⟨x, y, G, 0, 0, 0⟩]⟩ := by rw [← hR]; unfold oneM; rw [if_neg hG]
    have cA := fun w' h1 h2 h3 => hcA1.out (M + 1) M V.heap.size (.slice none 0 0) (by omega) w' h1 h2 (World.ownsRow_nil _ _ _ 6) (by omega) (by omega) (by omega) h3 (by omega)
    clear hcA0 hcA1 hR hG
    have okM3 := blk_older kM3
    have ckM3_0 : _ = some _ := blk_cell kM3 0
    have ckM3_1 : _ = some _ := blk_cell kM3 1
    have ckM3_2 : _ = some _ := blk_cell kM3 2
    have fkM3_0 := blk_free kM3 0
    have fkM3_1 := blk_free kM3 1
    have fkM3_2 := blk_free kM3 2
    have okR3 := blk_older kR3
    have ckR3_0 : _ = some _ := blk_cell kR3 0
    have ckR3_1 : _ = some _ := blk_cell kR3 1
    have ckR3_2 : _ = some _ := blk_cell kR3 2
    have fkR3_0 := blk_free kR3 0
    have fkR3_1 := blk_free kR3 1
    have fkR3_2 := blk_free kR3 2
    go_wp2_with (go_at_call 123; refine Calls.mono (cA _ kx3 kM3 hszY) ?_; rintro e w1 ⟨rfl, v', kx4, kM4, hown, hB1⟩; obtain ⟨A5, c5, rfl, -, hle5, hmx5, hnil5, hP5, hfr5⟩ := owns_cnts (l := [⟨x, y, G, 0, 0, 0⟩]) (by simpa using hown); have kR4 := hB1.blk kR3 (by omega) (by omega); have hbZ4 := hB1.below (B' := w.heap.size) (by omega) (by omega); have hsz4 := hB1.size; have cM0 := blk_cell kM4 0; have cM1 := blk_cell kM4 1; have cM2 := blk_cell kM4 2; have oM := blk_older kM4; have cR0 := blk_cell kR4 0; have oR := blk_older kR4; have fR0 := blk_free kR4 0; have fR1 := blk_free kR4 1; have fR2 := blk_free kR4 2; have cR1 := blk_cell kR4 1; have cR2 := blk_cell kR4 2; clear hown hB1)
    refine post_named ?_
    intro Z hZ
    have kZ : blk Z (w.heap.size + 2) #[.int .i64 nx, .int .i64 ny, .slice A5 1 c5] 34 := by rw [hZ]; exact (by apply blk_of; (repeat (first | with_reducible exact kR4 | with_reducible apply blk_drew | with_reducible apply blk_gw | with_reducible apply blk_alloc | with_reducible apply blk_set | ((with_reducible apply blk_other); focus omega))); (first | rfl | simp))
    have hbZ : Below w.heap.size w Z := Below.trans hbY2 (Below.trans (hbZ4.mono (Nat.le_refl _)) (by rw [hZ]; exact bBel))
    have hPZ : Cnts Z A5 [⟨x, y, G, 0, 0, 0⟩] := by
      rcases hfr5 with h | ⟨b, rfl, hge⟩
      · exact .inl h
      · refine cnts_sm ?_ hP5
        rw [hZ]
        repeat (first | with_reducible exact sm_refl _ _ | with_reducible refine sm_gw ?_ | with_reducible refine sm_set ?_ (by omega))
    clear hZ
    have okZ := blk_older kZ
    have ckZ_0 : _ = some _ := blk_cell kZ 0
    have ckZ_1 : _ = some _ := blk_cell kZ 1
    have ckZ_2 : _ = some _ := blk_cell kZ 2
    have fkZ_0 := blk_free kZ 0
    have fkZ_1 := blk_free kZ 1
    have fkZ_2 := blk_free kZ 2
    exact bodyPost_ret (v := .agg #[.int .i64 nx, .int .i64 ny, .slice A5 1 c5]) (by simp [results, Tryz.results42, go_sem, ckZ_0, ckZ_1, ckZ_2]) rfl (mnr_mk (l := [⟨x, y, G, 0, 0, 0⟩]) hle5 hmx5 hnil5 hPZ hbZ)

end Go.Proofs.YtiecpebckmihgaaGreat
