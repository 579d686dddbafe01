/- Contracts of package manifold: shapes that have edges. -/
import Derived.Test.YtiecpebckmihgaaGreatMnX
set_option linter.unusedVariables false
namespace Go.Proofs.YtiecpebckmihgaaGreat
open Go.RowKit Fx

theorem fcL_step (nx ny ax ay r s base : Int) (l : List Vtx) (k : Nat) (h : k < l.length) : fcL nx ny ax ay r s base (l.take (k + 1)) = fcL nx ny ax ay r s base (l.take k) ++ fcP nx ny ax ay r s base l[k] := by
  unfold fcL
  rw [List.take_succ_eq_append_getElem h, List.flatMap_append]
  simp
theorem fcP_no {nx ny ax ay r s base : Int} {v : Vtx} (h : 1024 < sub (fcG nx ny ax ay r v) s) : fcP nx ny ax ay r s base v = [] := if_pos h
theorem fcP_yes {nx ny ax ay r s base : Int} {v : Vtx} (h : ¬ 1024 < sub (fcG nx ny ax ay r v) s) : fcP nx ny ax ay r s base v = [⟨sub v.x (mul nx (rdiv (add (fcG nx ny ax ay r v) s) 2)), sub v.y (mul ny (rdiv (add (fcG nx ny ax ay r v) s) 2)), sub (fcG nx ny ax ay r v) s, base + v.id, 0, 0⟩] := if_neg h
theorem fcP_le (nx ny ax ay r s base : Int) (v : Vtx) : (fcP nx ny ax ay r s base v).length ≤ 1 := by
  unfold fcP; split <;> simp
theorem fcL_le (nx ny ax ay r s base : Int) : ∀ l : List Vtx, (fcL nx ny ax ay r s base l).length ≤ l.length
  | [] => by simp [fcL]
  | v :: l => by
    have h1 := fcL_le nx ny ax ay r s base l
    have h2 := fcP_le nx ny ax ay r s base v
    unfold fcL at h1 ⊢
    rw [List.flatMap_cons, List.length_append, List.length_cons]; omega
theorem toE_ids (ps : List Pt) (i : Int) (qs : List Pt) (k : Int) : ∀ v ∈ toE ps i qs k, 0 ≤ v.id ∧ v.id ≤ 1 := fun v hv => by
  rcases toE_len ps i qs k with h | ⟨a, b, h, h1, h2⟩
  · rw [h] at hv; cases hv
  · rw [h] at hv; simp at hv; rcases hv with rfl | rfl <;> omega
theorem Bel1.heap {B M b : Nat} {w w' : World} (h : Bel1 B M w w') (hb : b < B) (hne : b ≠ M) : w'.heap[b]? = w.heap[b]? := by
  obtain ⟨w1, i, u, h1, rfl⟩ := h
  rw [Below.heap_setCell _ _ _ _ hne]; exact h1.block b hb
theorem vts_ne {w : World} {E b off : Nat} {x y : Int} {A : Option Addr} {n c : Nat} {t : TypeId} {L : List Vtx} (hk : blk w E #[.int .i64 x, .int .i64 y, .slice A n c] t) (hp : Vts w (some ⟨b, off, none⟩) L) (h0 : 0 < L.length) : b ≠ E := by
  rintro rfl
  obtain ⟨b', off', e, hc⟩ := vts_open hp h0
  cases e
  obtain ⟨d0, d1, d2⟩ := hc 0 h0 w (Below.refl _ _)
  rw [Nat.zero_mul, Nat.add_zero] at d0 d1 d2
  rw [blk_cell hk] at d0 d1 d2
  match off, d0, d1, d2 with
  | 0, d0, d1, d2 => simp at d2
  | 1, d0, d1, d2 => simp at d1
  | 2, d0, d1, d2 => simp at d0
  | off + 3, d0, d1, d2 => simp at d0
theorem toE_le2 (ps : List Pt) (i : Int) (qs : List Pt) (k : Int) : (toE ps i qs k).length ≤ 2 := by
  rcases toE_len ps i qs k with h | ⟨a, b, h, -, -⟩ <;> rw [h] <;> simp

set_option maxRecDepth 100000 in
set_option maxHeartbeats 16000000 in
theorem mat_b (Ka Ra Kb Rb base : Int) (A B_ : Option Addr) (ca cb i : Nat) (ps qs : List (Int × Int)) (hi : i < ps.length) (h2 : 2 ≤ ps.length) (g2 : 2 ≤ qs.length) (hl : ps.length ≤ 1000) (hm : qs.length ≤ 1000) (hb0 : 0 ≤ base) (hb1 : base ≤ 100000) (w : World) (ha : Pts w A ps) (hb : Pts w B_ qs) :
    Calls Tryz.prog 89 #[.agg #[.int .i64 Ka, .slice A ps.length ca, .int .i64 Ra], .int .i64 (i : Int), .agg #[.int .i64 Kb, .slice B_ qs.length cb, .int .i64 Rb], .int .i64 base] w (MnR w (facM ps (i : Int) Ra qs Rb base)) := by
  have cN := fun w' h => ynor_b A ca ps (i : Int) (by omega) w' h
  have cI := fun w' h => yinc_b B_ cb qs (eNor ps (i : Int)).1 (eNor ps (i : Int)).2 (by omega) w' h
  obtain ⟨j, hjl, hj, -, -⟩ := inc_spec (b := qs) (eNor ps (i : Int)).1 (eNor ps (i : Int)).2 g2
  have cT := fun w' h1 h2 => vtxr_ex (ytoe_b A B_ ca cb ps qs (i : Int) (j : Int) (by omega) (by omega) w' h1 h2)
  have hids := toE_ids ps (i : Int) qs (j : Int)
  have hL2 := toE_le2 ps (i : Int) qs (j : Int)
  obtain ⟨R, hR⟩ : ∃ R, Hid (facM ps (i : Int) Ra qs Rb base = R) := ⟨_, rfl⟩
  rw [hR.out]
  have hR1 : Mn.mk (eNor ps (i : Int)).1 (eNor ps (i : Int)).2 (fcL (eNor ps (i : Int)).1 (eNor ps (i : Int)).2 (hp' ps i).1 (hp' ps i).2 Ra Rb (base + 64 * (i : Int) + 8 * inc qs (eNor ps (i : Int)).1 (eNor ps (i : Int)).2) (toE ps (i : Int) qs (inc qs (eNor ps (i : Int)).1 (eNor ps (i : Int)).2))) = R := hR.out
  rw [hj] at hR1 cI
  clear hR hj
  generalize (eNor ps (i : Int)).1 = nx at *
  generalize (eNor ps (i : Int)).2 = ny at *
  generalize toE ps (i : Int) qs (j : Int) = L at *
  obtain ⟨b, off, rfl, hc⟩ := pts_open0 ha (by omega)
  obtain ⟨d0, d1⟩ := hc i hi
  rw [hp_get hi] at hR1
  have hbP : b < w.heap.size := World.block_lt_of_cell? w ⟨b, off + i * 2, none⟩ d0
  have i0 : (0 : Int) ≤ (i : Int) := by omega
  have i1 : (i : Int) < (ps.length : Int) := by omega
  have i2 : (i : Int) ≤ 1000 := by omega
  have j0 : (0 : Int) ≤ (j : Int) := by omega
  have j2 : (j : Int) ≤ 1000 := by omega
  clear hc
  generalize ps[i].1 = ax at *
  generalize ps[i].2 = ay at *
  have hR2 : Hid (Mn.mk nx ny (fcL nx ny ax ay Ra Rb (base + 64 * (i : Int) + 8 * (j : Int)) L) = R) := hR1
  clear hR1
  go_enter Tryz.func89, Tryz.ntmps89
  go_upto_region 4 with (first | (go_at_call 86; refine Calls.mono (gw_at (cN _ (Pts.to ha bBel))) ?_; rintro e w1 ⟨rfl, q, rfl⟩) | (go_at_call 81; refine Calls.mono (madder_b _ _) ?_; rintro e w1 ⟨rfl, rfl⟩) | (go_at_call 128; refine Calls.mono (gw_at (cI _ (Pts.to hb bBel))) ?_; rintro e w1 ⟨rfl, q2, rfl⟩))
  refine wp_named ?_
  intro W hW
  have kA : blk W w.heap.size #[.int .i64 Ka, .slice (some ⟨b, off, none⟩) ps.length ca, .int .i64 Ra] 50 := by rw [hW]; exact bBkn
  have kB : blk W (w.heap.size + 1) #[.int .i64 Kb, .slice B_ qs.length cb, .int .i64 Rb] 50 := by rw [hW]; exact bBkn
  have kR : blk W (w.heap.size + 2) #[.int .i64 0, .int .i64 0, .slice none 0 0] 34 := by rw [hW]; exact bBkn
  have kM : blk W (w.heap.size + 1 + 1 + 1 + q.os.size) #[.int .i64 nx, .int .i64 ny, .slice none 0 0] 34 := by rw [hW]; exact bBkn
  have kx : blk W (w.heap.size + 1 + 1 + 1 + q.os.size + 1) #[.pointer (some ⟨w.heap.size + 1 + 1 + 1 + q.os.size, 0, none⟩)] 98 := by rw [hW]; exact bBkn
  have hbW : Below w.heap.size w W := by rw [hW]; exact bBel
  have hM0 : w.heap.size + 3 ≤ w.heap.size + 1 + 1 + 1 + q.os.size := by omega
  clear hW cN cI
  generalize w.heap.size + 1 + 1 + 1 + q.os.size = M at *
  clear q q2
  have hszW := hbW.size
  have haW := Pts.to ha hbW
  have hbPW := Pts.to hb hbW
  have okA := blk_older kA
  have ckA_0 : _ = some _ := blk_cell kA 0
  have ckA_1 : _ = some _ := blk_cell kA 1
  have ckA_2 : _ = some _ := blk_cell kA 2
  have fkA_0 := blk_free kA 0
  have fkA_1 := blk_free kA 1
  have fkA_2 := blk_free kA 2
  have okB := blk_older kB
  have ckB_0 : _ = some _ := blk_cell kB 0
  have ckB_1 : _ = some _ := blk_cell kB 1
  have ckB_2 : _ = some _ := blk_cell kB 2
  have fkB_0 := blk_free kB 0
  have fkB_1 := blk_free kB 1
  have fkB_2 := blk_free kB 2
  go_wp2_with (go_at_call 129; refine Calls.mono (cT _ (Pts.to haW bBel) (Pts.to hbPW bBel)) ?_; rintro e w1 ⟨⟨A5, c5, rfl, hle5, hmx5, hV5, hnil5⟩, q5, rfl⟩)
  refine wp_named ?_
  intro V hV
  have kA1 : blk V w.heap.size #[.int .i64 Ka, .slice (some ⟨b, off, none⟩) ps.length ca, .int .i64 Ra] 50 := by rw [hV]; exact (by apply blk_of; (repeat (first | with_reducible exact kA | with_reducible apply blk_drew | with_reducible apply blk_gw | with_reducible apply blk_alloc | with_reducible apply blk_set | ((with_reducible apply blk_other); focus omega))); (first | rfl | simp))
  have kB1 : blk V (w.heap.size + 1) #[.int .i64 Kb, .slice B_ qs.length cb, .int .i64 Rb] 50 := by rw [hV]; exact (by apply blk_of; (repeat (first | with_reducible exact kB | with_reducible apply blk_drew | with_reducible apply blk_gw | with_reducible apply blk_alloc | with_reducible apply blk_set | ((with_reducible apply blk_other); focus omega))); (first | rfl | simp))
  have kR1 : blk V (w.heap.size + 2) #[.int .i64 0, .int .i64 0, .slice none 0 0] 34 := by rw [hV]; exact (by apply blk_of; (repeat (first | with_reducible exact kR | with_reducible apply blk_drew | with_reducible apply blk_gw | with_reducible apply blk_alloc | with_reducible apply blk_set | ((with_reducible apply blk_other); focus omega))); (first | rfl | simp))
  have kM1 : blk V M #[.int .i64 nx, .int .i64 ny, .slice none 0 0] 34 := by rw [hV]; exact (by apply blk_of; (repeat (first | with_reducible exact kM | with_reducible apply blk_drew | with_reducible apply blk_gw | with_reducible apply blk_alloc | with_reducible apply blk_set | ((with_reducible apply blk_other); focus omega))); (first | rfl | simp))
  have kx1 : blk V (M + 1) #[.pointer (some ⟨M, 0, none⟩)] 98 := by rw [hV]; exact (by apply blk_of; (repeat (first | with_reducible exact kx | with_reducible apply blk_drew | with_reducible apply blk_gw | with_reducible apply blk_alloc | with_reducible apply blk_set | ((with_reducible apply blk_other); focus omega))); (first | rfl | simp))
  have hbV : Below w.heap.size w V := by rw [hV]; exact bBel
  have hVV : Vts V A5 L := by rw [hV]; exact Vts.to hV5 bBel
  clear hV okA ckA_0 ckA_1 ckA_2 fkA_0 fkA_1 fkA_2 okB ckB_0 ckB_1 ckB_2 fkB_0 fkB_1 fkB_2 kA kB kR kM kx hV5 cT haW hbPW hbW hszW ha hb
  have hszV := hbV.size
  have hMV := blk_lt kx1
  go_loopw [35] (fun ic wr => ∃ (k : Nat) (v : Value), k ≤ L.length ∧ ic = .int .i64 (k : Int) ∧ blk wr M #[.int .i64 nx, .int .i64 ny, v] 34 ∧ wr.ownsRow V.heap.size 39 6 v (fcL nx ny ax ay Ra Rb (base + 64 * (i : Int) + 8 * (j : Int)) (L.take k)).length ((fcL nx ny ax ay Ra Rb (base + 64 * (i : Int) + 8 * (j : Int)) (L.take k)).flatMap cnc) ∧ V.heap.size ≤ wr.heap.size ∧ (∀ b, b < V.heap.size → b ≠ M → wr.heap[b]? = V.heap[b]?) ∧ Below w.heap.size w wr)
    (fun ic _ => (L.length - intOf ic).toNat)
  case atStart => exact ⟨0, .slice none 0 0, by omega, rfl, kM1, World.ownsRow_nil _ _ _ 6, Nat.le_refl _, fun _ _ _ => rfl, hbV⟩
  case round =>
    obtain ⟨k, v, hk, rfl, kM, hown, hVr, hU, hbR⟩ := hrel
    have kA : blk wr w.heap.size #[.int .i64 Ka, .slice (some ⟨b, off, none⟩) ps.length ca, .int .i64 Ra] 50 := (hU _ (by omega) (by omega)).trans kA1
    have kB : blk wr (w.heap.size + 1) #[.int .i64 Kb, .slice B_ qs.length cb, .int .i64 Rb] 50 := (hU _ (by omega) (by omega)).trans kB1
    have kR : blk wr (w.heap.size + 2) #[.int .i64 0, .int .i64 0, .slice none 0 0] 34 := (hU _ (by omega) (by omega)).trans kR1
    have kx : blk wr (M + 1) #[.pointer (some ⟨M, 0, none⟩)] 98 := (hU _ (by omega) (by omega)).trans kx1
    have k0 : (0 : Int) ≤ (k : Int) := by omega
    by_cases hlt : k < L.length
    · have k1 : (k : Int) < (L.length : Int) := by omega
      have hn5 : ∀ b5 o5, A5 = some ⟨b5, o5, none⟩ → b5 ≠ M := fun b5 o5 h => by subst h; exact vts_ne kM1 hVV (by omega)
      obtain ⟨b5, o5, rfl, hc5⟩ := vts_open hVV (by omega)
      have hne5 := hn5 b5 o5 rfl
      obtain ⟨g0, g1, g2'⟩ := hc5 k hlt V (Below.refl _ _)
      have hlt5 : b5 < V.heap.size := World.block_lt_of_cell? V ⟨b5, o5 + k * 3, none⟩ g0
      have hcl : ∀ o, wr.cell? ⟨b5, o, none⟩ = V.cell? ⟨b5, o, none⟩ := fun o => by unfold World.cell?; rw [hU b5 hlt5 hne5]
      rw [← hcl] at g0 g1 g2'
      have og := older_of_cell g0
      have hD0 := (hbR.cell (p := ⟨b, off + i * 2, none⟩) hbP).trans d0
      have hD1 := (hbR.cell (p := ⟨b, off + i * 2 + 1, none⟩) hbP).trans d1
      have oD := older_of_cell hD0
      have hst := fcL_step nx ny ax ay Ra Rb (base + 64 * (i : Int) + 8 * (j : Int)) L k hlt
      have hPl : (fcL nx ny ax ay Ra Rb (base + 64 * (i : Int) + 8 * (j : Int)) (L.take k)).length ≤ 2 := Nat.le_trans (fcL_le _ _ _ _ _ _ _ _) (by rw [List.length_take]; omega)
      obtain ⟨id0, id1⟩ := hids L[k] (List.getElem_mem hlt)
      have hs2 : Hid (fcL nx ny ax ay Ra Rb (base + 64 * (i : Int) + 8 * (j : Int)) (L.take (k + 1)) = _) := hst
      clear hst hc5 hcl hn5
      generalize hLk : L[k] = vk at *
      clear hLk
      obtain ⟨vx, vy, vid⟩ := vk
      dsimp only at g0 g1 g2' id0 id1
      generalize fcL nx ny ax ay Ra Rb (base + 64 * (i : Int) + 8 * (j : Int)) (L.take k) = P at *
      have cs := fun w' => vsub_b vx vy ax ay w'
      have cd := fun w' => dot_b nx ny (sub vx ax) (sub vy ay) w'
      have c1 := fun w' => sub_b (dot nx ny (sub vx ax) (sub vy ay)) Ra w'
      have hfG : fcG nx ny ax ay Ra ⟨vx, vy, vid⟩ = sub (dot nx ny (sub vx ax) (sub vy ay)) Ra := rfl
      rw [← hfG] at c1
      have c2 := fun w' => add_b (fcG nx ny ax ay Ra ⟨vx, vy, vid⟩) Rb w'
      have c3 := fun w' => mhalf_b (add (fcG nx ny ax ay Ra ⟨vx, vy, vid⟩) Rb) w'
      have c4 := fun w' => sub_b (fcG nx ny ax ay Ra ⟨vx, vy, vid⟩) Rb w'
      have hno := fun h => fcP_no (nx := nx) (ny := ny) (ax := ax) (ay := ay) (r := Ra) (s := Rb) (base := base + 64 * (i : Int) + 8 * (j : Int)) (v := ⟨vx, vy, vid⟩) h
      have hyes := fun h => fcP_yes (nx := nx) (ny := ny) (ax := ax) (ay := ay) (r := Ra) (s := Rb) (base := base + 64 * (i : Int) + 8 * (j : Int)) (v := ⟨vx, vy, vid⟩) h
      dsimp only at hyes
      have hbnd := half_in (add_rng (fcG nx ny ax ay Ra ⟨vx, vy, vid⟩) Rb)
      generalize rdiv (add (fcG nx ny ax ay Ra ⟨vx, vy, vid⟩) Rb) 2 = h at *
      generalize sub (fcG nx ny ax ay Ra ⟨vx, vy, vid⟩) Rb = sp at *
      generalize add (fcG nx ny ax ay Ra ⟨vx, vy, vid⟩) Rb = gs at *
      generalize fcG nx ny ax ay Ra ⟨vx, vy, vid⟩ = e at *
      generalize dot nx ny (sub vx ax) (sub vy ay) = E0 at *
      generalize sub vx ax = t1 at *
      generalize sub vy ay = t2 at *
      generalize fcP nx ny ax ay Ra Rb (base + 64 * (i : Int) + 8 * (j : Int)) ⟨vx, vy, vid⟩ = F1 at *
      have hX := add_back vx nx h
      have hY := add_back vy ny h
      have hcA0 : Hid (∀ bx id (hs : 1024 < sp) (w' : World), _) := fun bx id hs w' => madd0_b bx vx vy (-h) sp id hs w'
      have hcA1 : Hid (∀ bx M B (v : Value) n xs id (hs : ¬ 1024 < sp) (w' : World), _) := fun bx M B v n xs id hs w' => madd1_b bx M B nx ny v n xs vx vy (-h) sp id _ _ hs hX hY w'
      have hnoH : Hid (1024 < sp → F1 = []) := hno
      have hyesH : Hid (¬ 1024 < sp → F1 = _) := hyes
      clear hX hY hno hyes hfG
      have hng : IntKind.i64.wrap (-h) = -h := by rw [IntWalk.i64_left, IntWalk.wrap64_in _ (by omega)]
      have okA := blk_older kA
      have ckA_0 : _ = some _ := blk_cell kA 0
      have ckA_1 : _ = some _ := blk_cell kA 1
      have ckA_2 : _ = some _ := blk_cell kA 2
      have fkA_0 := blk_free kA 0
      have fkA_1 := blk_free kA 1
      have fkA_2 := blk_free kA 2
      have okB := blk_older kB
      have ckB_0 : _ = some _ := blk_cell kB 0
      have ckB_1 : _ = some _ := blk_cell kB 1
      have ckB_2 : _ = some _ := blk_cell kB 2
      have fkB_0 := blk_free kB 0
      have fkB_1 := blk_free kB 1
      have fkB_2 := blk_free kB 2
      have okM := blk_older kM
      have ckM_0 : _ = some _ := blk_cell kM 0
      have ckM_1 : _ = some _ := blk_cell kM 1
      have ckM_2 : _ = some _ := blk_cell kM 2
      have fkM_0 := blk_free kM 0
      have fkM_1 := blk_free kM 1
      have fkM_2 := blk_free kM 2
      go_upto_region 7 with fail
      refine wp_named ?_
      intro X hX
      have kv : blk X wr.heap.size #[.int .i64 vx, .int .i64 vy, .int .i64 vid] 117 := by rw [hX]; exact bBkn
      have kA2 : blk X w.heap.size #[.int .i64 Ka, .slice (some ⟨b, off, none⟩) ps.length ca, .int .i64 Ra] 50 := by rw [hX]; exact (by apply blk_of; (repeat (first | with_reducible exact kA | with_reducible apply blk_drew | with_reducible apply blk_gw | with_reducible apply blk_alloc | with_reducible apply blk_set | ((with_reducible apply blk_other); focus omega))); (first | rfl | simp))
      have kB2 : blk X (w.heap.size + 1) #[.int .i64 Kb, .slice B_ qs.length cb, .int .i64 Rb] 50 := by rw [hX]; exact (by apply blk_of; (repeat (first | with_reducible exact kB | with_reducible apply blk_drew | with_reducible apply blk_gw | with_reducible apply blk_alloc | with_reducible apply blk_set | ((with_reducible apply blk_other); focus omega))); (first | rfl | simp))
      have kM2 : blk X M #[.int .i64 nx, .int .i64 ny, v] 34 := by rw [hX]; exact (by apply blk_of; (repeat (first | with_reducible exact kM | with_reducible apply blk_drew | with_reducible apply blk_gw | with_reducible apply blk_alloc | with_reducible apply blk_set | ((with_reducible apply blk_other); focus omega))); (first | rfl | simp))
      have kx2 : blk X (M + 1) #[.pointer (some ⟨M, 0, none⟩)] 98 := by rw [hX]; exact (by apply blk_of; (repeat (first | with_reducible exact kx | with_reducible apply blk_drew | with_reducible apply blk_gw | with_reducible apply blk_alloc | with_reducible apply blk_set | ((with_reducible apply blk_other); focus omega))); (first | rfl | simp))
      have hbX : Below wr.heap.size wr X := by rw [hX]; exact bBel
      have hD2 := (hbX.cell (p := ⟨b, off + i * 2, none⟩) (World.block_lt_of_cell? wr ⟨b, off + i * 2, none⟩ hD0)).trans hD0
      have hD3 := (hbX.cell (p := ⟨b, off + i * 2 + 1, none⟩) (World.block_lt_of_cell? wr ⟨b, off + i * 2 + 1, none⟩ hD1)).trans hD1
      have oD2 := older_of_cell hD2
      clear hX okA ckA_0 ckA_1 ckA_2 fkA_0 fkA_1 fkA_2 okB ckB_0 ckB_1 ckB_2 fkB_0 fkB_1 fkB_2 okM ckM_0 ckM_1 ckM_2 fkM_0 fkM_1 fkM_2 kA kB kM kx kR g0 g1 g2' og hD0 hD1 oD
      have hszX := hbX.size
      have okv := blk_older kv
      have ckv_0 : _ = some _ := blk_cell kv 0
      have ckv_1 : _ = some _ := blk_cell kv 1
      have ckv_2 : _ = some _ := blk_cell kv 2
      have fkv_0 := blk_free kv 0
      have fkv_1 := blk_free kv 1
      have fkv_2 := blk_free kv 2
      have okA2 := blk_older kA2
      have ckA2_0 : _ = some _ := blk_cell kA2 0
      have ckA2_1 : _ = some _ := blk_cell kA2 1
      have ckA2_2 : _ = some _ := blk_cell kA2 2
      have fkA2_0 := blk_free kA2 0
      have fkA2_1 := blk_free kA2 1
      have fkA2_2 := blk_free kA2 2
      have okB2 := blk_older kB2
      have ckB2_0 : _ = some _ := blk_cell kB2 0
      have ckB2_1 : _ = some _ := blk_cell kB2 1
      have ckB2_2 : _ = some _ := blk_cell kB2 2
      have fkB2_0 := blk_free kB2 0
      have fkB2_1 := blk_free kB2 1
      have fkB2_2 := blk_free kB2 2
      have okM2 := blk_older kM2
      have ckM2_0 : _ = some _ := blk_cell kM2 0
      have ckM2_1 : _ = some _ := blk_cell kM2 1
      have ckM2_2 : _ = some _ := blk_cell kM2 2
      have fkM2_0 := blk_free kM2 0
      have fkM2_1 := blk_free kM2 1
      have fkM2_2 := blk_free kM2 2
      refine wp_region_gw (by kernel_rfl) (by kernel_rfl) ?_
      repeat (go_big_quiet_step ((first | (go_at_call 36; with_reducible_and_instances exact gw_call (cs _)) | (go_at_call 130; with_reducible_and_instances exact gw_call (cd _)) | (go_at_call 17; with_reducible_and_instances exact gw_call (c1 _)))))
      refine wpQuiet_nil ?_
      intro w1 hw1
      obtain ⟨q, rfl⟩ := hw1
      go_upto_region 9 with (first | (go_at_call 83; refine Calls.mono (gw_at (c2 _)) ?_; rintro e w1 ⟨rfl, q6, rfl⟩) | (go_at_call 84; refine Calls.mono (gw_at (c3 _)) ?_; rintro e w1 ⟨rfl, q6, rfl⟩))
      refine wp_region_gw_tail 18 (by kernel_rfl) (by kernel_rfl) ?_
      simp only [List.take_succ_cons, List.take_zero, List.drop_succ_cons, List.drop_zero]
      repeat (go_big_quiet_step ((first | (go_at_call 17; with_reducible_and_instances exact gw_call (c4 _)))))
      refine wpQuiet_nil ?_
      intro w1 hw1
      obtain ⟨q, rfl⟩ := hw1
      refine list_nm ?_
      intro Y hY
      have hbY : Below X.heap.size X Y := by rw [hY]; exact bBel
      clear hY okv ckv_0 ckv_1 ckv_2 fkv_0 fkv_1 fkv_2 okA2 ckA2_0 ckA2_1 ckA2_2 fkA2_0 fkA2_1 fkA2_2 okB2 ckB2_0 ckB2_1 ckB2_2 fkB2_0 fkB2_1 fkB2_2 okM2 ckM2_0 ckM2_1 ckM2_2 fkM2_0 fkM2_1 fkM2_2 cs cd c1 c2 c3 c4 hD2 hD3 oD2 kv kA2 kB2
      have kM3 := blk_below hbY kM2
      have kx3 := blk_below hbY kx2
      have hbYr : Below wr.heap.size wr Y := Below.trans hbX (hbY.mono hszX)
      have hownY := owns_below hown hbYr
      have hszY := hbYr.size
      have hUY : ∀ b, b < V.heap.size → b ≠ M → Y.heap[b]? = V.heap[b]? := fun b h1 h2 => (hbYr.block b (by omega)).trans (hU b h1 h2)
      have hbYw : Below w.heap.size w Y := Below.trans hbR (hbYr.mono hbR.size)
      have hUH : Hid (∀ b, b < V.heap.size → b ≠ M → Y.heap[b]? = V.heap[b]?) := hUY
      clear hbY kM2 kx2 hbX hbYr hown hU hUY hbR
      by_cases hG : 1024 < sp
      · have hF := hnoH.out (by omega)
        have cA := fun id w' => hcA0.out (M + 1) id (by omega) w'
        clear hcA0 hcA1 hyesH hnoH hG
        subst hF
        rw [List.append_nil] at hs2
        go_wp2_with (go_at_call 123; refine Calls.mono (gw_at (cA _ _)) ?_; rintro e w1 ⟨rfl, q7, rfl⟩)
        have hbn : Below Y.heap.size Y (gw Y q7) := below_gw _ _
        exact ⟨⟨k + 1, v, by omega, by go_num, (by apply blk_of; (repeat (first | with_reducible exact kM3 | with_reducible apply blk_drew | with_reducible apply blk_gw | with_reducible apply blk_alloc | with_reducible apply blk_set | ((with_reducible apply blk_other); focus omega))); (first | rfl | simp)), by rw [hs2.out]; exact owns_below hownY bBel, by (try simp); omega, fun b h1 h2 => (hbn.block b (by omega)).trans (hUH.out b h1 h2), bBel⟩, by (try go_num); simp [intOf]; (try omega)⟩
      · have hF := hyesH.out (by omega)
        have cA := fun w' h1 h2 h3 h4 => hcA1.out (M + 1) M V.heap.size v P.length (P.flatMap cnc) (base + 64 * (i : Int) + 8 * (j : Int) + vid) (by omega) w' h1 h2 h3 (by omega) (by omega) (by omega) h4 (by omega)
        clear hcA0 hcA1 hyesH hnoH hG
        subst hF
        generalize sub vx (mul nx h) = x at *
        generalize sub vy (mul ny h) = y at *
        have hszV2 : V.heap.size ≤ Y.heap.size := by omega
        have okM3 := blk_older kM3
        have ckM3_0 : _ = some _ := blk_cell kM3 0
        have ckM3_1 : _ = some _ := blk_cell kM3 1
        have ckM3_2 : _ = some _ := blk_cell kM3 2
        have fkM3_0 := blk_free kM3 0
        have fkM3_1 := blk_free kM3 1
        have fkM3_2 := blk_free kM3 2
        go_wp2_with (go_at_call 123; refine Calls.mono (cA _ kx3 kM3 hownY hszV2) ?_; rintro e w1 ⟨rfl, v', kx4, kM4, hown4, hB1⟩)
        have hown5 : w1.ownsRow V.heap.size 39 6 v' (P ++ [(⟨x, y, sp, base + 64 * (i : Int) + 8 * (j : Int) + vid, 0, 0⟩ : Cnt)]).length ((P ++ [(⟨x, y, sp, base + 64 * (i : Int) + 8 * (j : Int) + vid, 0, 0⟩ : Cnt)]).flatMap cnc) := by
          rw [List.length_append, List.flatMap_append]; simpa using hown4
        have hsz4 := hB1.size
        exact ⟨⟨k + 1, v', by omega, by go_num, kM4, by rw [hs2.out]; exact hown5, by omega, fun b h1 h2 => (hB1.heap h1 h2).trans (hUH.out b h1 h2), Below.trans hbYw (hB1.below (by omega) (by omega))⟩, by (try go_num); simp [intOf]; (try omega)⟩
    · obtain rfl : k = L.length := by omega
      have k1 : ¬ (L.length : Int) < (L.length : Int) := by omega
      rw [List.take_length] at hown
      have hRR := hR2.out
      generalize fcL nx ny ax ay Ra Rb (base + 64 * (i : Int) + 8 * (j : Int)) L = P at *
      subst hRR
      obtain ⟨A6, c6, rfl, -, hle6, hmx6, hnil6, hP6, hfr6⟩ := owns_cnts hown
      clear hown hR2 hids
      have okM := blk_older kM
      have ckM_0 : _ = some _ := blk_cell kM 0
      have ckM_1 : _ = some _ := blk_cell kM 1
      have ckM_2 : _ = some _ := blk_cell kM 2
      have fkM_0 := blk_free kM 0
      have fkM_1 := blk_free kM 1
      have fkM_2 := blk_free kM 2
      have okR := blk_older kR
      have ckR_0 : _ = some _ := blk_cell kR 0
      have ckR_1 : _ = some _ := blk_cell kR 1
      have ckR_2 : _ = some _ := blk_cell kR 2
      have fkR_0 := blk_free kR 0
      have fkR_1 := blk_free kR 1
      have fkR_2 := blk_free kR 2
      go_wp2_with fail
      refine post_named ?_
      intro Z hZ
      have kZ : blk Z (w.heap.size + 2) #[.int .i64 nx, .int .i64 ny, .slice A6 P.length c6] 34 := by rw [hZ]; exact (by apply blk_of; (repeat (first | with_reducible exact kR | with_reducible apply blk_drew | with_reducible apply blk_gw | with_reducible apply blk_alloc | with_reducible apply blk_set | ((with_reducible apply blk_other); focus omega))); (first | rfl | simp))
      have hbZ : Below w.heap.size w Z := by rw [hZ]; exact bBel
      have hPZ : Cnts Z A6 P := by
        refine cnts_keep kR hP6 fun b hb => ?_
        rw [hZ]
        repeat (first | with_reducible exact sm_refl _ _ | with_reducible refine sm_gw ?_ | with_reducible refine sm_set ?_ hb)
      clear hZ
      have okZ := blk_older kZ
      have ckZ_0 : _ = some _ := blk_cell kZ 0
      have ckZ_1 : _ = some _ := blk_cell kZ 1
      have ckZ_2 : _ = some _ := blk_cell kZ 2
      have fkZ_0 := blk_free kZ 0
      have fkZ_1 := blk_free kZ 1
      have fkZ_2 := blk_free kZ 2
      exact bodyPost_ret (v := .agg #[.int .i64 nx, .int .i64 ny, .slice A6 P.length c6]) (by simp [results, Tryz.results89, go_sem, ckZ_0, ckZ_1, ckZ_2]) rfl (mnr_mk hle6 hmx6 hnil6 hPZ hbZ)

theorem facM_len (a : List Pt) (i r : Int) (b : List Pt) (s base : Int) : (facM a i r b s base).l.length ≤ 2 := by
  unfold facM; dsimp only
  exact Nat.le_trans (fcL_le _ _ _ _ _ _ _ _) (toE_le2 _ _ _ _)

set_option maxRecDepth 100000 in
set_option maxHeartbeats 16000000 in
theorem medge_b (Ka Ra Kb Rb : Int) (A B_ : Option Addr) (ca cb : Nat) (ps qs : List (Int × Int)) (h2 : 2 ≤ ps.length) (g2 : 2 ≤ qs.length) (hl : ps.length ≤ 1000) (hm : qs.length ≤ 1000) (w : World) (ha : Pts w A ps) (hb : Pts w B_ qs) :
    Calls Tryz.prog 45 #[.agg #[.int .i64 Ka, .slice A ps.length ca, .int .i64 Ra], .agg #[.int .i64 Kb, .slice B_ qs.length cb, .int .i64 Rb]] w (MnR w (facesM ps Ra qs Rb)) := by
  have cM := fun w' h1 h2 => ymsep_b A B_ ca cb ps qs (by omega) (by omega) w' h1 h2
  have cN := fun w' h1 h2 => ymsep_b B_ A cb ca qs ps (by omega) (by omega) w' h1 h2
  obtain ⟨i, hi, hI, -, -⟩ := msep_spec (a := ps) (b := qs) h2 (by omega)
  obtain ⟨k, hk, hK, -, -⟩ := msep_spec (a := qs) (b := ps) g2 (by omega)
  have cP := fun w' h1 h2' => mnr_ex (mat_b Ka Ra Kb Rb 0 A B_ ca cb i ps qs hi h2 g2 hl hm (by decide) (by decide) w' h1 h2')
  have cQ := fun w' h1 h2' => mnr_ex (mat_b Kb Rb Ka Ra 4096 B_ A cb ca k qs ps hk g2 h2 hm hl (by decide) (by decide) w' h1 h2')
  obtain ⟨R, hR⟩ : ∃ R, Hid (facesM ps Ra qs Rb = R) := ⟨_, rfl⟩
  rw [hR.out]
  have hR1 : (if 1024 < sub (sub (max (msep ps qs).2 (msep qs ps).2) Ra) Rb then mz else if add (msep ps qs).2 64 < (msep qs ps).2 then (facM qs (msep qs ps).1 Rb ps Ra 4096).flip else facM ps (msep ps qs).1 Ra qs Rb 0) = R := hR.out
  clear hR
  rw [hI] at hR1 cM
  rw [hK] at hR1 cN
  dsimp only at hR1 cM cN
  have hQl := facM_len qs (k : Int) Rb ps Ra 4096
  generalize facM qs (k : Int) Rb ps Ra 4096 = MQ at *
  generalize facM ps (i : Int) Ra qs Rb 0 = MP at *
  generalize sep ps i qs = g at *
  generalize sep qs k ps = h at *
  have c1 := fun w' => sub_b (max g h) Ra w'
  have c2 := fun w' => sub_b (sub (max g h) Ra) Rb w'
  have c3 := fun w' => add_b g 64 w'
  generalize sub (sub (max g h) Ra) Rb = S1 at *
  generalize sub (max g h) Ra = S0 at *
  generalize add g 64 = gb at *
  have hR2 : Hid ((if 1024 < S1 then mz else if gb < h then MQ.flip else MP) = R) := hR1
  clear hR1
  obtain ⟨mx, my, ml⟩ := MQ
  obtain ⟨ox, oy, ol⟩ := MP
  dsimp only at hQl
  have cF := fun A' c' h1 h2 w' h => mnf_ex (mflip_b mx my A' c' ml (by omega) h1 h2 w' h)
  go_enter Tryz.func45, Tryz.ntmps45
  go_upto_region 3 with (first | (go_at_call 85; (with_reducible show Calls _ _ #[.slice A _ _, .slice B_ _ _] _ _); refine Calls.mono (gw_at (cM _ (Pts.to ha bBel) (Pts.to hb bBel))) ?_; rintro e w1 ⟨rfl, q, rfl⟩) | (go_at_call 85; (with_reducible show Calls _ _ #[.slice B_ _ _, .slice A _ _] _ _); refine Calls.mono (gw_at (cN _ (Pts.to hb bBel) (Pts.to ha bBel))) ?_; rintro e w1 ⟨rfl, q2, rfl⟩))
  refine wp_named ?_
  intro W hW
  have kA : blk W w.heap.size #[.int .i64 Ka, .slice A ps.length ca, .int .i64 Ra] 50 := by rw [hW]; exact bBkn
  have kB : blk W (w.heap.size + 1) #[.int .i64 Kb, .slice B_ qs.length cb, .int .i64 Rb] 50 := by rw [hW]; exact bBkn
  have kR : blk W (w.heap.size + 2) #[.int .i64 0, .int .i64 0, .slice none 0 0] 34 := by rw [hW]; exact bBkn
  have hbW : Below w.heap.size w W := by rw [hW]; exact bBel
  clear hW cM cN
  have hszW := hbW.size
  have haW := Pts.to ha hbW
  have hbPW := Pts.to hb hbW
  have hRW := blk_lt kR
  clear ha hb
  have okA := blk_older kA
  have ckA_0 : _ = some _ := blk_cell kA 0
  have ckA_1 : _ = some _ := blk_cell kA 1
  have ckA_2 : _ = some _ := blk_cell kA 2
  have fkA_0 := blk_free kA 0
  have fkA_1 := blk_free kA 1
  have fkA_2 := blk_free kA 2
  have okB := blk_older kB
  have ckB_0 : _ = some _ := blk_cell kB 0
  have ckB_1 : _ = some _ := blk_cell kB 1
  have ckB_2 : _ = some _ := blk_cell kB 2
  have fkB_0 := blk_free kB 0
  have fkB_1 := blk_free kB 1
  have fkB_2 := blk_free kB 2
  have okR := blk_older kR
  have ckR_0 : _ = some _ := blk_cell kR 0
  have ckR_1 : _ = some _ := blk_cell kR 1
  have ckR_2 : _ = some _ := blk_cell kR 2
  have fkR_0 := blk_free kR 0
  have fkR_1 := blk_free kR 1
  have fkR_2 := blk_free kR 2
  by_cases n1 : 1024 < S1
  · obtain rfl : R = mz := by have := hR2.out; rw [if_pos n1] at this; exact this.symm
    have z1 : decide (1024 < S1) = true := decide_eq_true n1
    clear hR2 cP cQ cF
    refine wp_mix 10 [0, 0, 3, 0, 8, 31, 0, 64, 255, 511] [] [0, 1, 2, 3, 4, 5, 6, 7, 8, 9] (by kernel_rfl) (by kernel_rfl) ?_
    repeat (first | (refine mix_skip (by rfl) (by rfl) (by rfl) (by rfl) ?_) | (refine mix_early (by rfl) (by rfl) (by rfl) ?_; go_big_quiet_step (fail); with_reducible refine wpQuiet_nil ?_) | (refine mix_late (by rfl) (by rfl) (by rfl) ?_; go_big_quiet_step (fail); with_reducible refine wpQuiet_nil ?_) | (refine mix_call (by rfl) (by rfl) (by rfl) ?_; intro pM Qs hQs; go_wp2_with (first | (go_at_call 17; (with_reducible show Calls _ _ #[.int .i64 S0, _] _ _); refine Calls.mono (gw_at (c2 _)) ?_; rintro e w1 ⟨rfl, q, rfl⟩) | (go_at_call 17; refine Calls.mono (gw_at (c1 _)) ?_; rintro e w1 ⟨rfl, q, rfl⟩)); refine hQs _ _ bBel ?_))
    refine mix_end ?_
    intro pE
    simp only [List.drop_succ_cons, List.drop_zero]
    go_wp2_with fail
    refine post_named ?_
    intro Z hZ
    have kZ : blk Z (w.heap.size + 2) #[.int .i64 0, .int .i64 0, .slice none 0 0] 34 := by rw [hZ]; exact (by apply blk_of; (repeat (first | with_reducible exact kR | with_reducible apply blk_drew | with_reducible apply blk_gw | with_reducible apply blk_alloc | with_reducible apply blk_set | ((with_reducible apply blk_other); focus omega))); (first | rfl | simp))
    have hbZ : Below w.heap.size w Z := by rw [hZ]; exact bBel
    clear hZ
    have okZ := blk_older kZ
    have ckZ_0 : _ = some _ := blk_cell kZ 0
    have ckZ_1 : _ = some _ := blk_cell kZ 1
    have ckZ_2 : _ = some _ := blk_cell kZ 2
    have fkZ_0 := blk_free kZ 0
    have fkZ_1 := blk_free kZ 1
    have fkZ_2 := blk_free kZ 2
    exact bodyPost_ret (v := .agg #[.int .i64 0, .int .i64 0, .slice none 0 0]) (by simp [results, Tryz.results45, go_sem, ckZ_0, ckZ_1, ckZ_2]) rfl (mnr_mk (l := []) (Nat.le_refl _) (by decide) (fun _ => rfl) (.inl rfl) hbZ)
  · have z1 : decide (1024 < S1) = false := decide_eq_false n1
    by_cases n2 : gb < h
    · obtain rfl : R = ⟨ng mx, ng my, ml⟩ := by have := hR2.out; rw [if_neg n1, if_pos n2] at this; exact this.symm
      clear hR2 cP
      refine wp_mix 10 [0, 0, 3, 0, 8, 31, 0, 64, 255, 511] [] [0, 1, 2, 3, 4, 5, 6, 7, 8, 9] (by kernel_rfl) (by kernel_rfl) ?_
      repeat (first | (refine mix_skip (by rfl) (by rfl) (by rfl) (by rfl) ?_) | (refine mix_early (by rfl) (by rfl) (by rfl) ?_; go_big_quiet_step (fail); with_reducible refine wpQuiet_nil ?_) | (refine mix_late (by rfl) (by rfl) (by rfl) ?_; go_big_quiet_step (fail); with_reducible refine wpQuiet_nil ?_) | (refine mix_call (by rfl) (by rfl) (by rfl) ?_; intro pM Qs hQs; go_wp2_with (first | (go_at_call 17; (with_reducible show Calls _ _ #[.int .i64 S0, _] _ _); refine Calls.mono (gw_at (c2 _)) ?_; rintro e w1 ⟨rfl, q, rfl⟩) | (go_at_call 17; refine Calls.mono (gw_at (c1 _)) ?_; rintro e w1 ⟨rfl, q, rfl⟩)); refine hQs _ _ bBel ?_))
      refine mix_end ?_
      intro pE
      simp only [List.drop_succ_cons, List.drop_zero]
      go_wp2_with (first | (go_at_call 83; refine Calls.mono (gw_at (c3 _)) ?_; rintro e w1 ⟨rfl, q, rfl⟩) | (go_at_call 89; refine Calls.mono (cQ _ (Pts.to hbPW bBel) (Pts.to haW bBel)) ?_; rintro e w1 ⟨⟨A5, c5, rfl, hle5, hmx5, hnil5, hP5⟩, q5, rfl⟩) | (go_at_call 44; refine Calls.mono (cF _ _ hle5 hnil5 _ hP5) ?_; rintro e w1 ⟨⟨A6, c6, rfl, hle6, hmx6, hnil6, hP6, hfr6⟩, q6, rfl⟩))
      refine post_named ?_
      intro Z hZ
      have kZ : blk Z (w.heap.size + 2) #[.int .i64 (ng mx), .int .i64 (ng my), .slice A6 ml.length c6] 34 := by rw [hZ]; exact (by apply blk_of; (repeat (first | with_reducible exact kR | with_reducible apply blk_drew | with_reducible apply blk_gw | with_reducible apply blk_alloc | with_reducible apply blk_set | ((with_reducible apply blk_other); focus omega))); (first | rfl | simp))
      have hbZ : Below w.heap.size w Z := by rw [hZ]; exact bBel
      have hPZ : Cnts Z A6 ml := by
        refine cnts_keep (by (repeat (with_reducible apply blk_gw)); exact kR) hP6 fun b hb => ?_
        rw [hZ]
        repeat (first | with_reducible exact sm_refl _ _ | with_reducible refine sm_gw ?_ | with_reducible refine sm_set ?_ hb)
      clear hZ
      have okZ := blk_older kZ
      have ckZ_0 : _ = some _ := blk_cell kZ 0
      have ckZ_1 : _ = some _ := blk_cell kZ 1
      have ckZ_2 : _ = some _ := blk_cell kZ 2
      have fkZ_0 := blk_free kZ 0
      have fkZ_1 := blk_free kZ 1
      have fkZ_2 := blk_free kZ 2
      exact bodyPost_ret (v := .agg #[.int .i64 (ng mx), .int .i64 (ng my), .slice A6 ml.length c6]) (by simp [results, Tryz.results45, go_sem, ckZ_0, ckZ_1, ckZ_2]) rfl (mnr_mk hle6 hmx6 hnil6 hPZ hbZ)
    · obtain rfl : R = ⟨ox, oy, ol⟩ := by have := hR2.out; rw [if_neg n1, if_neg n2] at this; exact this.symm
      clear hR2 cQ cF
      refine wp_mix 10 [0, 0, 3, 0, 8, 31, 0, 64, 255, 511] [] [0, 1, 2, 3, 4, 5, 6, 7, 8, 9] (by kernel_rfl) (by kernel_rfl) ?_
      repeat (first | (refine mix_skip (by rfl) (by rfl) (by rfl) (by rfl) ?_) | (refine mix_early (by rfl) (by rfl) (by rfl) ?_; go_big_quiet_step (fail); with_reducible refine wpQuiet_nil ?_) | (refine mix_late (by rfl) (by rfl) (by rfl) ?_; go_big_quiet_step (fail); with_reducible refine wpQuiet_nil ?_) | (refine mix_call (by rfl) (by rfl) (by rfl) ?_; intro pM Qs hQs; go_wp2_with (first | (go_at_call 17; (with_reducible show Calls _ _ #[.int .i64 S0, _] _ _); refine Calls.mono (gw_at (c2 _)) ?_; rintro e w1 ⟨rfl, q, rfl⟩) | (go_at_call 17; refine Calls.mono (gw_at (c1 _)) ?_; rintro e w1 ⟨rfl, q, rfl⟩)); refine hQs _ _ bBel ?_))
      refine mix_end ?_
      intro pE
      simp only [List.drop_succ_cons, List.drop_zero]
      go_wp2_with (first | (go_at_call 83; refine Calls.mono (gw_at (c3 _)) ?_; rintro e w1 ⟨rfl, q, rfl⟩) | (go_at_call 89; refine Calls.mono (cP _ (Pts.to haW bBel) (Pts.to hbPW bBel)) ?_; rintro e w1 ⟨⟨A5, c5, rfl, hle5, hmx5, hnil5, hP5⟩, q5, rfl⟩))
      refine post_named ?_
      intro Z hZ
      have kZ : blk Z (w.heap.size + 2) #[.int .i64 ox, .int .i64 oy, .slice A5 ol.length c5] 34 := by rw [hZ]; exact (by apply blk_of; (repeat (first | with_reducible exact kR | with_reducible apply blk_drew | with_reducible apply blk_gw | with_reducible apply blk_alloc | with_reducible apply blk_set | ((with_reducible apply blk_other); focus omega))); (first | rfl | simp))
      have hbZ : Below w.heap.size w Z := by rw [hZ]; exact bBel
      have hPZ : Cnts Z A5 ol := by
        refine cnts_keep (by (repeat (with_reducible apply blk_gw)); exact kR) hP5 fun b hb => ?_
        rw [hZ]
        repeat (first | with_reducible exact sm_refl _ _ | with_reducible refine sm_gw ?_ | with_reducible refine sm_set ?_ hb)
      clear hZ
      have okZ := blk_older kZ
      have ckZ_0 : _ = some _ := blk_cell kZ 0
      have ckZ_1 : _ = some _ := blk_cell kZ 1
      have ckZ_2 : _ = some _ := blk_cell kZ 2
      have fkZ_0 := blk_free kZ 0
      have fkZ_1 := blk_free kZ 1
      have fkZ_2 := blk_free kZ 2
      exact bodyPost_ret (v := .agg #[.int .i64 ox, .int .i64 oy, .slice A5 ol.length c5]) (by simp [results, Tryz.results45, go_sem, ckZ_0, ckZ_1, ckZ_2]) rfl (mnr_mk hle5 hmx5 hnil5 hPZ hbZ)

end Go.Proofs.YtiecpebckmihgaaGreat
