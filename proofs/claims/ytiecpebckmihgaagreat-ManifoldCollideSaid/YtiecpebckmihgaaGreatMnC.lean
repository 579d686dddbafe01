/- Contracts of chapter 16's reference: face (ManifoldCollide). -/
import Derived.Test.YtiecpebckmihgaaGreatMnO
import Derived.Test.YtiecpebckmihgaaGreatMnZ
set_option linter.unusedVariables false
namespace Go.Proofs.YtiecpebckmihgaaGreat
open Go.RowKit Fx

theorem wrap_in {x : Int} (h : -9223372036854775808 ≤ x ∧ x ≤ 9223372036854775807) : IntKind.i64.wrap x = x := by rw [IntWalk.i64_left, IntWalk.wrap64_in _ (by omega)]

theorem own_slice {w : World} {B : Nat} {e : TypeId} {sz : Nat} {v : Value} {n : Nat} {xs : List Value} (h : w.ownsRow B e sz v (n + 1) xs) : ∃ g cap, v = .slice (some ⟨g, 0, none⟩) (n + 1) cap ∧ B ≤ g := by
  obtain ⟨hl, ⟨_, h6⟩ | ⟨g, c, cur, h5, hg, hk, _⟩⟩ := h
  · omega
  · exact ⟨g, c, h5, hg⟩
theorem blk_bel {B b : Nat} {w w' : World} {c : Array Value} {t : TypeId} (h : Below B w w') (hb : b < B) (k : blk w b c t) : blk w' b c t := (h.block b hb).trans k
theorem bel_tr {B : Nat} {Y Z w2 : World} (h1 : Below Y.heap.size Y Z) (h : B ≤ Y.heap.size) (h2 : Below B Z w2) : Below B Y w2 := Below.trans (h1.mono h) h2

set_option maxRecDepth 100000 in
set_option maxHeartbeats 32000000 in
theorem rface16_b (R S : Int) (A B_ : Option Addr) (ca cb i : Nat) (ps qs : List (Int × Int)) (hi : i < ps.length) (h2 : 2 ≤ ps.length) (g2 : 2 ≤ qs.length) (hl : ps.length ≤ 1000) (hm : qs.length ≤ 1000) (M : Mn) (hM : (facM ps (i : Int) R qs S 0).nz = M) (w : World) (ha : Pts w A ps) (hb : Pts w B_ qs) :
    Calls Tryz.prog 64 #[.slice A ps.length ca, .int .i64 (i : Int), .int .i64 R, .slice B_ qs.length cb, .int .i64 S] w (MnT w M (decide (M.l ≠ []))) := by
  have cN := fun w' h => rnor_b A ca ps (i : Int) (by omega) w' h
  have cI := fun w' h => rinc_b B_ cb qs (eNor ps (i : Int)).1 (eNor ps (i : Int)).2 (by omega) w' h
  obtain ⟨j, hjl, hj, -, -⟩ := inc_spec (b := qs) (eNor ps (i : Int)).1 (eNor ps (i : Int)).2 g2
  have cT := fun w' h1 h2 => vtxr_ex (rtoe_b A B_ ca cb ps qs (i : Int) (j : Int) (by omega) (by omega) w' h1 h2)
  have hids := toE_ids ps (i : Int) qs (j : Int)
  have hL2 := toE_le2 ps (i : Int) qs (j : Int)
  have hR1 : (Mn.mk (eNor ps (i : Int)).1 (eNor ps (i : Int)).2 (fcL (eNor ps (i : Int)).1 (eNor ps (i : Int)).2 (hp' ps i).1 (hp' ps i).2 R S (0 + 64 * (i : Int) + 8 * inc qs (eNor ps (i : Int)).1 (eNor ps (i : Int)).2) (toE ps (i : Int) qs (inc qs (eNor ps (i : Int)).1 (eNor ps (i : Int)).2)))).nz = M := hM
  rw [hj, Int.zero_add] at hR1
  rw [hj] at cI
  clear hM hj
  generalize (eNor ps (i : Int)).1 = nx at *
  generalize (eNor ps (i : Int)).2 = ny at *
  generalize toE ps (i : Int) qs (j : Int) = L at *
  obtain ⟨b, off, rfl, hc⟩ := pts_open0 ha (by omega)
  obtain ⟨d0, d1⟩ := hc i hi
  rw [hp_get hi] at hR1
  have hbP : b < w.heap.size := World.block_lt_of_cell? w ⟨b, off + i * 2, none⟩ d0
  have i0 : (0 : Int) ≤ (i : Int) := by omega
  have i1 : (i : Int) < (ps.length : Int) := by omega
  have i2 : (i : Int) ≤ 1000 := by omega
  have j0 : (0 : Int) ≤ (j : Int) := by omega
  have j2 : (j : Int) ≤ 1000 := by omega
  have v1 : IntKind.i64.wrap (64 * (i : Int)) = 64 * (i : Int) := wrap_in (by omega)
  have v2 : IntKind.i64.wrap (8 * (j : Int)) = 8 * (j : Int) := wrap_in (by omega)
  have v3 : IntKind.i64.wrap (64 * (i : Int) + 8 * (j : Int)) = 64 * (i : Int) + 8 * (j : Int) := wrap_in (by omega)
  clear hc
  generalize ps[i].1 = ax at *
  generalize ps[i].2 = ay at *
  have hR2 : Hid ((Mn.mk nx ny (fcL nx ny ax ay R S (64 * (i : Int) + 8 * (j : Int)) L)).nz = M) := hR1
  clear hR1
  obtain ⟨f0, hi0, hz0, hz1, hz2⟩ := info_parts info_cnt
  go_enter Tryz.func64, Tryz.ntmps64
  go_upto_region 3 with (first | (go_at_call 60; refine Calls.mono (gw_at (cN _ (Pts.to ha bBel))) ?_; rintro e w1 ⟨rfl, q, rfl⟩) | (go_at_call 103; refine Calls.mono (gw_at (cI _ (Pts.to hb bBel))) ?_; rintro e w1 ⟨rfl, q2, rfl⟩))
  refine wp_named ?_
  intro W hW
  have kR : blk W w.heap.size #[.int .i64 0, .int .i64 0, .slice none 0 0] 34 := by rw [hW]; exact bBkn
  have kM : blk W (w.heap.size + 1 + q.os.size) #[.int .i64 nx, .int .i64 ny, .slice none 0 0] 34 := by rw [hW]; exact bBkn
  have hbW : Below w.heap.size w W := by rw [hW]; exact bBel
  have hD0 : w.heap.size + 1 ≤ w.heap.size + 1 + q.os.size := by omega
  clear hW cN cI
  generalize w.heap.size + 1 + q.os.size = D at *
  clear q q2
  have hszW := hbW.size
  have haW := Pts.to ha hbW
  have hbPW := Pts.to hb hbW
  go_wp2_with (go_at_call 104; refine Calls.mono (cT _ (Pts.to haW bBel) (Pts.to hbPW bBel)) ?_; rintro e w1 ⟨⟨A5, c5, rfl, hle5, hmx5, hV5, hnil5⟩, q5, rfl⟩)
  refine wp_named ?_
  intro V hV
  have kR1 : blk V w.heap.size #[.int .i64 0, .int .i64 0, .slice none 0 0] 34 := by rw [hV]; exact (by apply blk_of; (repeat (first | with_reducible exact kR | with_reducible apply blk_drew | with_reducible apply blk_gw | with_reducible apply blk_alloc | with_reducible apply blk_set | ((with_reducible apply blk_other); focus omega))); (first | rfl | simp))
  have kM1 : blk V D #[.int .i64 nx, .int .i64 ny, .slice none 0 0] 34 := by rw [hV]; exact (by apply blk_of; (repeat (first | with_reducible exact kM | with_reducible apply blk_drew | with_reducible apply blk_gw | with_reducible apply blk_alloc | with_reducible apply blk_set | ((with_reducible apply blk_other); focus omega))); (first | rfl | simp))
  have hbV : Below w.heap.size w V := by rw [hV]; exact bBel
  have hVV : Vts V A5 L := by rw [hV]; exact Vts.to hV5 bBel
  clear hV kR kM hV5 cT haW hbPW hbW hszW ha hb
  have hszV := hbV.size
  have hMV := blk_lt kM1
  have hRV := blk_lt kR1
  go_loopw [15] (fun ic wr => ∃ (k : Nat) (v : Value), k ≤ L.length ∧ ic = .int .i64 (k : Int) ∧ blk wr D #[.int .i64 nx, .int .i64 ny, v] 34 ∧ wr.ownsRow V.heap.size 39 6 v (fcL nx ny ax ay R S (64 * (i : Int) + 8 * (j : Int)) (L.take k)).length ((fcL nx ny ax ay R S (64 * (i : Int) + 8 * (j : Int)) (L.take k)).flatMap cnc) ∧ V.heap.size ≤ wr.heap.size ∧ (∀ b, b < V.heap.size → b ≠ D → wr.heap[b]? = V.heap[b]?) ∧ Below w.heap.size w wr)
    (fun ic _ => (L.length - intOf ic).toNat)
  case atStart => exact ⟨0, .slice none 0 0, by omega, rfl, kM1, World.ownsRow_nil _ _ _ 6, Nat.le_refl _, fun _ _ _ => rfl, hbV⟩
  case round =>
    obtain ⟨k, v, hk, rfl, kM, hown, hVr, hU, hbR⟩ := hrel
    have kR : blk wr w.heap.size #[.int .i64 0, .int .i64 0, .slice none 0 0] 34 := (hU _ (by omega) (by omega)).trans kR1
    have k0 : (0 : Int) ≤ (k : Int) := by omega
    by_cases hlt : k < L.length
    · have k1 : (k : Int) < (L.length : Int) := by omega
      have hn5 : ∀ b5 o5, A5 = some ⟨b5, o5, none⟩ → b5 ≠ D := fun b5 o5 h => by subst h; exact vts_ne kM1 hVV (by omega)
      obtain ⟨b5, o5, rfl, hc5⟩ := vts_open hVV (by omega)
      have hne5 := hn5 b5 o5 rfl
      obtain ⟨g0, g1, g2'⟩ := hc5 k hlt V (Below.refl _ _)
      have hlt5 : b5 < V.heap.size := World.block_lt_of_cell? V ⟨b5, o5 + k * 3, none⟩ g0
      have hcl : ∀ o, wr.cell? ⟨b5, o, none⟩ = V.cell? ⟨b5, o, none⟩ := fun o => by unfold World.cell?; rw [hU b5 hlt5 hne5]
      rw [← hcl] at g0 g1 g2'
      have og := older_of_cell g0
      have hD0 := (hbR.cell (p := ⟨b, off + i * 2, none⟩) hbP).trans d0
      have hD1 := (hbR.cell (p := ⟨b, off + i * 2 + 1, none⟩) hbP).trans d1
      have oD := older_of_cell hD0
      have hst := fcL_step nx ny ax ay R S (64 * (i : Int) + 8 * (j : Int)) L k hlt
      have hPl : (fcL nx ny ax ay R S (64 * (i : Int) + 8 * (j : Int)) (L.take k)).length ≤ 2 := Nat.le_trans (fcL_le _ _ _ _ _ _ _ _) (by rw [List.length_take]; omega)
      obtain ⟨id0, id1⟩ := hids L[k] (List.getElem_mem hlt)
      have hs2 : Hid (fcL nx ny ax ay R S (64 * (i : Int) + 8 * (j : Int)) (L.take (k + 1)) = _) := hst
      clear hst hc5 hcl hn5
      generalize hLk : L[k] = vk at *
      clear hLk
      obtain ⟨vx, vy, vid⟩ := vk
      dsimp only at g0 g1 g2' id0 id1
      generalize fcL nx ny ax ay R S (64 * (i : Int) + 8 * (j : Int)) (L.take k) = P at *
      have cs := fun w' => rvsub_b vx vy ax ay w'
      have cd := fun w' => rdot_b nx ny (sub vx ax) (sub vy ay) w'
      have c1 := fun w' => rsub_b (dot nx ny (sub vx ax) (sub vy ay)) R w'
      have hfG : fcG nx ny ax ay R ⟨vx, vy, vid⟩ = sub (dot nx ny (sub vx ax) (sub vy ay)) R := rfl
      rw [← hfG] at c1
      have c2 := fun w' => radd_b (fcG nx ny ax ay R ⟨vx, vy, vid⟩) S w'
      have c3 := fun w' => rrd_b (add (fcG nx ny ax ay R ⟨vx, vy, vid⟩) S) 2 w'
      have c4 := fun w' => rsub_b (fcG nx ny ax ay R ⟨vx, vy, vid⟩) S w'
      have hno := fun h => fcP_no (nx := nx) (ny := ny) (ax := ax) (ay := ay) (r := R) (s := S) (base := 64 * (i : Int) + 8 * (j : Int)) (v := ⟨vx, vy, vid⟩) h
      have hyes := fun h => fcP_yes (nx := nx) (ny := ny) (ax := ax) (ay := ay) (r := R) (s := S) (base := 64 * (i : Int) + 8 * (j : Int)) (v := ⟨vx, vy, vid⟩) h
      dsimp only at hyes
      generalize rdiv (add (fcG nx ny ax ay R ⟨vx, vy, vid⟩) S) 2 = h at *
      generalize sub (fcG nx ny ax ay R ⟨vx, vy, vid⟩) S = sp at *
      generalize add (fcG nx ny ax ay R ⟨vx, vy, vid⟩) S = gs at *
      generalize fcG nx ny ax ay R ⟨vx, vy, vid⟩ = e at *
      generalize dot nx ny (sub vx ax) (sub vy ay) = E0 at *
      generalize sub vx ax = t1 at *
      generalize sub vy ay = t2 at *
      generalize fcP nx ny ax ay R S (64 * (i : Int) + 8 * (j : Int)) ⟨vx, vy, vid⟩ = F1 at *
      have c5 := fun w' => rvscale_b nx ny h w'
      have c6 := fun w' => rvsub_b vx vy (mul nx h) (mul ny h) w'
      generalize mul nx h = m1 at *
      generalize mul ny h = m2 at *
      generalize sub vx m1 = x at *
      generalize sub vy m2 = y at *
      have hnoH : Hid (1024 < sp → F1 = []) := hno
      have hyesH : Hid (¬ 1024 < sp → F1 = _) := hyes
      clear hno hyes hfG
      have v4 : IntKind.i64.wrap (64 * (i : Int) + 8 * (j : Int) + vid) = 64 * (i : Int) + 8 * (j : Int) + vid := wrap_in (by omega)
      have okM := blk_older kM
      have ckM_0 : _ = some _ := blk_cell kM 0
      have ckM_1 : _ = some _ := blk_cell kM 1
      have ckM_2 : _ = some _ := blk_cell kM 2
      have fkM_0 := blk_free kM 0
      have fkM_1 := blk_free kM 1
      have fkM_2 := blk_free kM 2
      go_wp2_with fail
      refine wp_region_gw (by kernel_rfl) (by kernel_rfl) ?_
      repeat (go_big_quiet_step ((first | (go_at_call 23; with_reducible_and_instances exact gw_call (cs _)) | (go_at_call 105; with_reducible_and_instances exact gw_call (cd _)))))
      refine wpQuiet_nil ?_
      intro w1 hw1
      obtain ⟨q, rfl⟩ := hw1
      go_upto_region 9 with (first | (go_at_call 48; with_reducible_and_instances refine Calls.mono (gw_at (c1 _)) ?_; rintro e w1 ⟨rfl, q3, rfl⟩) | (go_at_call 48; with_reducible_and_instances refine Calls.mono (gw_at (c4 _)) ?_; rintro e w1 ⟨rfl, q4, rfl⟩))
      refine wp_named ?_
      intro X hX
      have hbX : Below wr.heap.size wr X := by rw [hX]; exact bBel
      clear hX okM ckM_0 ckM_1 ckM_2 fkM_0 fkM_1 fkM_2 cs cd c4 hD0 hD1 oD
      have hszX := hbX.size
      have kM2 := blk_below hbX kM
      have hownX := owns_below hown hbX
      have h5X : b5 < wr.heap.size := World.block_lt_of_cell? wr ⟨b5, o5 + k * 3, none⟩ g0
      replace g0 := (hbX.cell (p := ⟨b5, o5 + k * 3, none⟩) h5X).trans g0
      replace g1 := (hbX.cell (p := ⟨b5, o5 + k * 3 + 1, none⟩) h5X).trans g1
      replace g2' := (hbX.cell (p := ⟨b5, o5 + k * 3 + 2, none⟩) h5X).trans g2'
      replace og := older_of_cell g0
      have hUX : ∀ b, b < V.heap.size → b ≠ D → X.heap[b]? = V.heap[b]? := fun b h1 h2 => (hbX.block b (by omega)).trans (hU b h1 h2)
      have hbXw : Below w.heap.size w X := Below.trans hbR (hbX.mono hbR.size)
      have hUH : Hid (∀ b, b < V.heap.size → b ≠ D → X.heap[b]? = V.heap[b]?) := hUX
      clear hbX hown hU hUX hbR kM kR
      by_cases hG : 1024 < sp
      · have hF := hnoH.out (by omega)
        have hd : decide (1024 < sp) = true := decide_eq_true hG
        clear hyesH hnoH
        subst hF
        rw [List.append_nil] at hs2
        go_wp2_with fail
        exact ⟨⟨k + 1, v, by omega, by go_num, kM2, by rw [hs2.out]; exact hownX, by omega, hUH.out, hbXw⟩, by (try go_num); simp [intOf]; (try omega)⟩
      · have hF := hyesH.out (by omega)
        have hd : decide (1024 < sp) = false := decide_eq_false hG
        clear hyesH hnoH
        subst hF
        have okM2 := blk_older kM2
        have ckM2_0 : _ = some _ := blk_cell kM2 0
        have ckM2_1 : _ = some _ := blk_cell kM2 1
        have ckM2_2 : _ = some _ := blk_cell kM2 2
        have fkM2_0 := blk_free kM2 0
        have fkM2_1 := blk_free kM2 1
        have fkM2_2 := blk_free kM2 2
        go_upto_region 11 with (first | (go_at_call 48; refine Calls.mono (gw_at (c1 _)) ?_; rintro e w1 ⟨rfl, q3, rfl⟩) | (go_at_call 58; refine Calls.mono (gw_at (c2 _)) ?_; rintro e w1 ⟨rfl, q6, rfl⟩) | (go_at_call 52; refine Calls.mono (gw_at (c3 _)) ?_; rintro e w1 ⟨rfl, q7, rfl⟩))
        refine wp_named ?_
        intro Y hY
        have kM3 : blk Y D #[.int .i64 nx, .int .i64 ny, v] 34 := by rw [hY]; exact (by apply blk_of; (repeat (first | with_reducible exact kM2 | with_reducible apply blk_drew | with_reducible apply blk_gw | with_reducible apply blk_alloc | with_reducible apply blk_set | ((with_reducible apply blk_other); focus omega))); (first | rfl | simp))
        have hbY : Below X.heap.size X Y := by rw [hY]; exact bBel
        clear hY okM2 ckM2_0 ckM2_1 ckM2_2 fkM2_0 fkM2_1 fkM2_2 c1 c2 c3 kM2
        have hownY := owns_below hownX hbY
        have h5Y : b5 < X.heap.size := by omega
        replace g0 := (hbY.cell (p := ⟨b5, o5 + k * 3, none⟩) h5Y).trans g0
        replace g1 := (hbY.cell (p := ⟨b5, o5 + k * 3 + 1, none⟩) h5Y).trans g1
        replace g2' := (hbY.cell (p := ⟨b5, o5 + k * 3 + 2, none⟩) h5Y).trans g2'
        replace og := older_of_cell g0
        have hszY := hbY.size
        have hUY : Hid (∀ b, b < V.heap.size → b ≠ D → Y.heap[b]? = V.heap[b]?) := fun b h1 h2 => (hbY.block b (by omega)).trans (hUH.out b h1 h2)
        have hbYw : Below w.heap.size w Y := Below.trans hbXw (hbY.mono hbXw.size)
        clear hUH hbXw hbY hownX
        have hDY := blk_lt kM3
        have okM3 := blk_older kM3
        have ckM3_0 : _ = some _ := blk_cell kM3 0
        have ckM3_1 : _ = some _ := blk_cell kM3 1
        have ckM3_2 : _ = some _ := blk_cell kM3 2
        have fkM3_0 := blk_free kM3 0
        have fkM3_1 := blk_free kM3 1
        have fkM3_2 := blk_free kM3 2
        first
          | (refine wp_mix 14 [0, 1, 0, 0, 12, 28, 60, 0, 0, 384, 896, 2044, 4095, 8191] [] [0, 1, 2, 3, 4, 5, 6, 7, 8, 9, 10, 11, 12, 13] (by kernel_rfl) (by decide +kernel) ?_)
          | (refine wp_mix 26 [0, 1, 0, 0, 12, 28, 60, 0, 128, 0, 896, 2044, 0, 0, 8192, 0, 32768, 122880, 0, 0, 786432, 1835008, 3932160, 8380416, 16777212, 33554428, 67108863, 134217727, 268435455] [] [0, 1, 2, 3, 4, 5, 6, 7, 8, 9, 10, 11, 12, 13, 14, 15, 16, 17, 18, 19, 20, 21, 22, 23, 24, 25] (by kernel_rfl) (by decide +kernel) ?_)
        first
          | (repeat (first | (refine mix_skip (by rfl) (by rfl) (by rfl) (by rfl) ?_) | (refine mix_early (by rfl) (by rfl) (by rfl) ?_; go_big_quiet_step (fail); with_reducible refine wpQuiet_nil ?_) | (refine mix_late (by rfl) (by rfl) (by rfl) ?_; go_big_quiet_step (fail); with_reducible refine wpQuiet_nil ?_) | (refine mix_call (by rfl) (by rfl) (by rfl) ?_; intro pM Qs hQs; go_wp2_with (first | (go_at_call 57; refine Calls.mono (gw_at (c5 _)) ?_; rintro e w1 ⟨rfl, q8, rfl⟩) | (go_at_call 23; refine Calls.mono (gw_at (c6 _)) ?_; rintro e w1 ⟨rfl, q9, rfl⟩)); refine hQs _ _ bBel ?_)))
          | (repeat (first | (refine mix_skip (by rfl) (by rfl) (by rfl) (by rfl) ?_) | (refine mix_early (by rfl) (by rfl) (by rfl) ?_; go_big_quiet_step (fail); with_reducible refine wpQuiet_nil ?_) | (refine mix_late (by rfl) (by rfl) (by rfl) ?_; go_big_quiet_step (fail); with_reducible refine wpQuiet_nil ?_) | (refine mix_call (by rfl) (by rfl) (by rfl) ?_; intro pM Qs hQs; go_wp2_with (first | (go_at_call 57; refine Calls.mono (gw_at (c5 _)) ?_; rintro e w1 ⟨rfl, q8, rfl⟩) | (go_at_call 23; refine Calls.mono (gw_at (c6 _)) ?_; rintro e w1 ⟨rfl, q9, rfl⟩)); refine hQs _ _ bBel ?_)))
        refine mix_make #[.int .i64 x, .int .i64 y, .int .i64 sp, .int .i64 (64 * (i : Int) + 8 * (j : Int) + vid), .int .i64 0, .int .i64 0] 39 (some 1) (by rfl) (by rfl) (by rfl) (by rfl) (fun w => by simp [go_sem, mval]) ?_
        intro b9 wb hbb kb hS
        obtain ⟨qb, rfl⟩ := gw_of_below hbb
        clear hbb hS
        simp only [mval]
        first
          | (refine mix_end ?_
             intro pE
             simp only [List.drop_succ_cons, List.drop_zero])
          | (refine mix_end ?_
             intro pE
             simp only [List.drop_succ_cons, List.drop_zero])
        go_wp2_with (at_builtin; refine wpList_appM rfl _ _ 32 rfl V.heap.size 39 f0 (.agg #[.int .i64 0, .int .i64 0, .int .i64 0, .int .i64 0, .int .i64 0, .int .i64 0]) 6 48 Tryz.underlying32 hi0 hz0 hz1 hz2 rfl (by decide) v P.length (P.flatMap cnc) rfl (owns_below hownY bBel) _ [.int .i64 x, .int .i64 y, .int .i64 sp, .int .i64 (64 * (i : Int) + 8 * (j : Int) + vid), .int .i64 0, .int .i64 0] 39 rfl rfl (by show blk _ _ #[.int .i64 x, .int .i64 y, .int .i64 sp, .int .i64 (64 * (i : Int) + 8 * (j : Int) + vid), .int .i64 0, .int .i64 0] _; exact (by apply blk_of; (repeat (first | with_reducible exact kb | with_reducible apply blk_drew | with_reducible apply blk_gw | with_reducible apply blk_alloc | with_reducible apply blk_set | ((with_reducible apply blk_other); focus omega))); (first | rfl | simp))) (fun u hu => by simp at hu; rcases hu with rfl | rfl | rfl | rfl | rfl | rfl <;> rfl) (by unfold maxLen; omega) (by omega) (by first | (simp; omega) | omega) ?_; intro v' w2 hown2 hb2; have kM5 : blk w2 D #[.int .i64 nx, .int .i64 ny, v] 34 := blk_bel hb2 (by omega) (by apply blk_of; (repeat (first | with_reducible exact kM3 | with_reducible apply blk_drew | with_reducible apply blk_gw | with_reducible apply blk_alloc | with_reducible apply blk_set | ((with_reducible apply blk_other); focus omega))); (first | rfl | simp)); have hbY2 : Below V.heap.size Y w2 := bel_tr bBel (by omega) hb2; have cM5 := blk_cell kM5 2; have fM5 := blk_free kM5 2; have oM5 := blk_older kM5; obtain ⟨g9, cap9, rfl, hg9⟩ := own_slice hown2; clear hb2)
        have hne2 : (Value.slice (some ⟨g9, 0, none⟩) (P.length + 1) cap9).ownBlock ≠ some D := by
          simp [Value.ownBlock]; omega
        have hB1 : Bel1 V.heap.size D Y (w2.setCell ⟨D, 2, none⟩ (.slice (some ⟨g9, 0, none⟩) (P.length + 1) cap9)) := ⟨w2, 2, (.slice (some ⟨g9, 0, none⟩) (P.length + 1) cap9), hbY2, rfl⟩
        have hown3 : (w2.setCell ⟨D, 2, none⟩ (.slice (some ⟨g9, 0, none⟩) (P.length + 1) cap9)).ownsRow V.heap.size 39 6 (.slice (some ⟨g9, 0, none⟩) (P.length + 1) cap9) (P.length + 1) (P.flatMap cnc ++ cnc ⟨x, y, sp, 64 * (i : Int) + 8 * (j : Int) + vid, 0, 0⟩) := ownsRow_setCell_other hown2 hne2 _
        have hown5 : (w2.setCell ⟨D, 2, none⟩ (.slice (some ⟨g9, 0, none⟩) (P.length + 1) cap9)).ownsRow V.heap.size 39 6 (.slice (some ⟨g9, 0, none⟩) (P.length + 1) cap9) (P ++ [(⟨x, y, sp, 64 * (i : Int) + 8 * (j : Int) + vid, 0, 0⟩ : Cnt)]).length ((P ++ [(⟨x, y, sp, 64 * (i : Int) + 8 * (j : Int) + vid, 0, 0⟩ : Cnt)]).flatMap cnc) := by
          rw [List.length_append, List.flatMap_append]; simpa using hown3
        have hsz4 := hB1.size
        exact ⟨⟨k + 1, (.slice (some ⟨g9, 0, none⟩) (P.length + 1) cap9), by omega, by go_num, blk_of (blk_set kM5) rfl, by rw [hs2.out]; exact hown5, by omega, fun b h1 h2 => (hB1.heap h1 h2).trans (hUY.out b h1 h2), Below.trans hbYw (hB1.below (by omega) (by omega))⟩, by (try go_num); simp [intOf]; (try omega)⟩
    · obtain rfl : k = L.length := by omega
      have k1 : ¬ (L.length : Int) < (L.length : Int) := by omega
      rw [List.take_length] at hown
      have hRR := hR2.out
      generalize fcL nx ny ax ay R S (64 * (i : Int) + 8 * (j : Int)) L = P at *
      obtain ⟨A6, c6, rfl, -, hle6, hmx6, hnil6, hP6, hfr6⟩ := owns_cnts hown
      clear hown hR2 hids
      have okM := blk_older kM
      have ckM_0 : _ = some _ := blk_cell kM 0
      have ckM_1 : _ = some _ := blk_cell kM 1
      have ckM_2 : _ = some _ := blk_cell kM 2
      have fkM_0 := blk_free kM 0
      have fkM_1 := blk_free kM 1
      have fkM_2 := blk_free kM 2
      have okR := blk_older kR
      have ckR_0 : _ = some _ := blk_cell kR 0
      have ckR_1 : _ = some _ := blk_cell kR 1
      have ckR_2 : _ = some _ := blk_cell kR 2
      have fkR_0 := blk_free kR 0
      have fkR_1 := blk_free kR 1
      have fkR_2 := blk_free kR 2
      by_cases hP0 : P = []
      · subst hP0
        obtain rfl : M = mz := by rw [← hRR]; exact nz_nil rfl
        clear hRR
        go_wp2_with fail
        refine post_named ?_
        intro Z hZ
        have kZ : blk Z w.heap.size #[.int .i64 0, .int .i64 0, .slice none 0 0] 34 := by rw [hZ]; exact (by apply blk_of; (repeat (first | with_reducible exact kR | with_reducible apply blk_drew | with_reducible apply blk_gw | with_reducible apply blk_alloc | with_reducible apply blk_set | ((with_reducible apply blk_other); focus omega))); (first | rfl | simp))
        have hbZ : Below w.heap.size w Z := by rw [hZ]; exact bBel
        clear hZ
        have okZ := blk_older kZ
        have ckZ_0 : _ = some _ := blk_cell kZ 0
        have ckZ_1 : _ = some _ := blk_cell kZ 1
        have ckZ_2 : _ = some _ := blk_cell kZ 2
        have fkZ_0 := blk_free kZ 0
        have fkZ_1 := blk_free kZ 1
        have fkZ_2 := blk_free kZ 2
        exact bodyPost_ret (v := .tuple #[.agg #[.int .i64 0, .int .i64 0, .slice none 0 0], .bool false]) (by simp [results, Tryz.results64, go_sem, ckZ_0, ckZ_1, ckZ_2]) rfl (mnt_mk (l := []) (by decide) (Nat.le_refl _) (by decide) (fun _ => rfl) (.inl rfl) hbZ)
      · obtain rfl : M = ⟨nx, ny, P⟩ := by rw [← hRR]; exact nz_pos hP0
        clear hRR
        have z3 : ((P.length : Int) == 0) = false := by
          rw [beq_eq_false_iff_ne]; intro h; exact hP0 (List.eq_nil_of_length_eq_zero (by omega))
        go_wp2_with fail
        refine post_named ?_
        intro Z hZ
        have kZ : blk Z w.heap.size #[.int .i64 nx, .int .i64 ny, .slice A6 P.length c6] 34 := by rw [hZ]; exact (by apply blk_of; (repeat (first | with_reducible exact kR | with_reducible apply blk_drew | with_reducible apply blk_gw | with_reducible apply blk_alloc | with_reducible apply blk_set | ((with_reducible apply blk_other); focus omega))); (first | rfl | simp))
        have hbZ : Below w.heap.size w Z := by rw [hZ]; exact bBel
        have hPZ : Cnts Z A6 P := by
          refine cnts_keep kR hP6 fun b hb => ?_
          rw [hZ]
          repeat (first | with_reducible exact sm_refl _ _ | with_reducible refine sm_gw ?_ | with_reducible refine sm_set ?_ hb)
        clear hZ
        have okZ := blk_older kZ
        have ckZ_0 : _ = some _ := blk_cell kZ 0
        have ckZ_1 : _ = some _ := blk_cell kZ 1
        have ckZ_2 : _ = some _ := blk_cell kZ 2
        have fkZ_0 := blk_free kZ 0
        have fkZ_1 := blk_free kZ 1
        have fkZ_2 := blk_free kZ 2
        exact bodyPost_ret (v := .tuple #[.agg #[.int .i64 nx, .int .i64 ny, .slice A6 P.length c6], .bool true]) (by simp [results, Tryz.results64, go_sem, ckZ_0, ckZ_1, ckZ_2]) rfl (by first | exact mnt_mk2 hle6 hmx6 hnil6 hPZ hbZ | exact mnt_mk (by exact decide_eq_true hP0) hle6 hmx6 hnil6 hPZ hbZ)

end Go.Proofs.YtiecpebckmihgaaGreat
