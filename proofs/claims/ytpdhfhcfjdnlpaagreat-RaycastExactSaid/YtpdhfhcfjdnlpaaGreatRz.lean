/- Contracts of chapter 18's reference: castCapsule, Cast; the law RaycastExact. -/
import Derived.Test.YtpdhfhcfjdnlpaaGreatRx
import Derived.Test.YtpdhfhcfjdnlpaaGreatCo9
import Derived.BigRegion
set_option linter.unusedVariables false
namespace Go.Proofs.YtpdhfhcfjdnlpaaGreat
open Go.RowKit Fx

theorem pts_at18 {w : World} {A : Option Addr} {l : List (Int × Int)} (h : Pts w A l) (h0 : 0 < l.length) : ∃ b off, A = some ⟨b, off, none⟩ ∧ b < w.heap.size ∧ ∀ w', Below w.heap.size w w' → ∀ i (h : i < l.length), w'.cell? ⟨b, off + i * 2, none⟩ = some (.int .i64 l[i].1) ∧ w'.cell? ⟨b, off + i * 2 + 1, none⟩ = some (.int .i64 l[i].2) := by
  rcases h with h | ⟨b, off, rfl, hc⟩
  · rw [h] at h0; simp at h0
  · have hb : b < w.heap.size := World.block_lt_of_cell? w ⟨b, off + 0 * 2, none⟩ (hc 0 h0).1
    refine ⟨b, off, rfl, hb, fun w' hbl i hi => ?_⟩
    obtain ⟨d0, d1⟩ := hc i hi
    exact ⟨(hbl.cell (p := ⟨b, off + i * 2, none⟩) hb).trans d0, (hbl.cell (p := ⟨b, off + i * 2 + 1, none⟩) hb).trans d1⟩

theorem rcc18_h (cx cy r fx fy gx gy : Int) (H : Ht) (hH : castC cx cy r fx fy gx gy = H) (w : World) : Calls Tryz.prog 14 #[.agg #[.int .i64 cx, .int .i64 cy], .int .i64 r, .agg #[.int .i64 fx, .int .i64 fy], .agg #[.int .i64 gx, .int .i64 gy]] w fun e w' => e = .returned (.tuple #[.int .i64 H.t, .agg #[.int .i64 H.x, .int .i64 H.y], .bool H.b]) ∧ Below w.heap.size w w' := by
  cases H; exact rcc18_b cx cy r fx fy gx gy _ _ _ _ hH w

theorem rcp18_h (A : Option Addr) (cap : Nat) (ps : List (Int × Int)) (fx fy gx gy : Int) (H : Ht) (hl : ps.length ≤ 4611686018427387904) (hH : castP ps fx fy gx gy = H) (w : World) (hp : Pts w A ps) : Calls Tryz.prog 15 #[.slice A ps.length cap, .agg #[.int .i64 fx, .int .i64 fy], .agg #[.int .i64 gx, .int .i64 gy]] w fun e w' => e = .returned (.tuple #[.int .i64 H.t, .agg #[.int .i64 H.x, .int .i64 H.y], .bool H.b]) ∧ Below w.heap.size w w' := by
  cases H; exact rcp18_b A cap ps fx fy gx gy _ _ _ _ hl hH w hp

set_option maxRecDepth 100000 in
set_option maxHeartbeats 16000000 in
theorem rck_b (A : Option Addr) (cap : Nat) (px py qx qy r fx fy gx gy t x y : Int) (b : Bool) (hH : castK px py qx qy r fx fy gx gy = ⟨t, x, y, b⟩) (w : World) (hp : Pts w A [(px, py), (qx, qy)]) : Calls Tryz.prog 16 #[.slice A 2 cap, .int .i64 r, .agg #[.int .i64 fx, .int .i64 fy], .agg #[.int .i64 gx, .int .i64 gy]] w fun e w' => e = .returned (.tuple #[.int .i64 t, .agg #[.int .i64 x, .int .i64 y], .bool b]) ∧ Below w.heap.size w w' := by
  have cS := fun w' => rvsub_b qx qy px py w'
  have c1 := fun w' => rcc18_h px py r fx fy gx gy _ rfl w'
  have c2 := fun w' => rcc18_h qx qy r fx fy gx gy _ rfl w'
  unfold castK cwX cwY at hH
  generalize sub qx px = dx at *
  generalize sub qy py = dy at *
  have cN := fun w' => rvnorm_b dx dy w'
  generalize unit dx (vlen dx dy) = u at *
  generalize unit dy (vlen dx dy) = v at *
  have cP := fun w' => rvperp_b u v w'
  generalize -sat v = u2 at *
  generalize sat u = v2 at *
  have cK := fun w' => rvscale_b u2 v2 r w'
  generalize mul u2 r = wx at *
  generalize mul v2 r = wy at *
  have d1 := fun w' => rvsub_b px py wx wy w'
  have d2 := fun w' => rvsub_b qx qy wx wy w'
  have d3 := fun w' => rvadd_b qx qy wx wy w'
  have d4 := fun w' => rvadd_b px py wx wy w'
  unfold cw4 at hH
  generalize sub px wx = x1 at *
  generalize sub py wy = y1 at *
  generalize sub qx wx = x2 at *
  generalize sub qy wy = y2 at *
  generalize add qx wx = x3 at *
  generalize add qy wy = y3 at *
  generalize add px wx = x4 at *
  generalize add py wy = y4 at *
  have c3 : ∀ B w', blk w' B #[.int .i64 x1, .int .i64 y1, .int .i64 x2, .int .i64 y2, .int .i64 x3, .int .i64 y3, .int .i64 x4, .int .i64 y4] 27 → Calls Tryz.prog 15 #[.slice (some ⟨B, 0, none⟩) 4 4, .agg #[.int .i64 fx, .int .i64 fy], .agg #[.int .i64 gx, .int .i64 gy]] w' _ := fun B w' h => rcp18_h (some ⟨B, 0, none⟩) 4 [(x1, y1), (x2, y2), (x3, y3), (x4, y4)] fx fy gx gy _ (by simp) rfl w' (pts4_of h)
  generalize castC px py r fx fy gx gy = h1 at *
  generalize castC qx qy r fx fy gx gy = h2 at *
  generalize castP [(x1, y1), (x2, y2), (x3, y3), (x4, y4)] fx fy gx gy = h3 at *
  obtain ⟨t1, a1, b1, f1⟩ := h1
  obtain ⟨t2, a2, b2, f2⟩ := h2
  obtain ⟨t3, a3, b3, f3⟩ := h3
  dsimp only at c1 c2 c3
  obtain ⟨h4, hh4⟩ : ∃ h4, Hid (fst2 ⟨t1, a1, b1, f1⟩ ⟨t2, a2, b2, f2⟩ = h4) := ⟨_, rfl⟩
  rw [hh4.out] at hH
  obtain ⟨t4, a4, b4, f4⟩ := h4
  have hR : Hid (fst2 ⟨t4, a4, b4, f4⟩ ⟨t3, a3, b3, f3⟩ = ⟨t, x, y, b⟩) := hH
  clear hH
  obtain ⟨pb, po, hA, hpb, hcc⟩ := pts_at18 hp (by simp)
  subst hA
  have hc0 : ∀ w', Below w.heap.size w w' → w'.cell? ⟨pb, po, none⟩ = some (.int .i64 px) ∧ w'.cell? ⟨pb, po + 1, none⟩ = some (.int .i64 py) ∧ w'.cell? ⟨pb, po + 2, none⟩ = some (.int .i64 qx) ∧ w'.cell? ⟨pb, po + 2 + 1, none⟩ = some (.int .i64 qy) := fun w' h => ⟨(hcc w' h 0 (by simp)).1, (hcc w' h 0 (by simp)).2, (hcc w' h 1 (by simp)).1, (hcc w' h 1 (by simp)).2⟩
  clear hcc
  go_enter Tryz.func16, Tryz.ntmps16
  go_upto_region 1 with fail
  refine wp_named ?_
  intro W hW
  have kF : blk W w.heap.size #[.int .i64 fx, .int .i64 fy] 27 := by rw [hW]; exact bBkn
  have kG : blk W (w.heap.size + 1) #[.int .i64 gx, .int .i64 gy] 27 := by rw [hW]; exact bBkn
  have kR : blk W (w.heap.size + 2) #[.int .i64 0, .int .i64 0] 27 := by rw [hW]; exact bBkn
  have hbW : Below w.heap.size w W := by rw [hW]; exact bBel
  clear hW
  have hszW := hbW.size
  obtain ⟨e0, e1, e2, e3⟩ := hc0 W hbW
  have oe := older_of_cell e0
  have okF := blk_older kF
  have ckF_0 : _ = some _ := blk_cell kF 0
  have ckF_1 : _ = some _ := blk_cell kF 1
  have fkF_0 := blk_free kF 0
  have fkF_1 := blk_free kF 1
  have okG := blk_older kG
  have ckG_0 : _ = some _ := blk_cell kG 0
  have ckG_1 : _ = some _ := blk_cell kG 1
  have fkG_0 := blk_free kG 0
  have fkG_1 := blk_free kG 1
  have okR := blk_older kR
  have ckR_0 : _ = some _ := blk_cell kR 0
  have ckR_1 : _ = some _ := blk_cell kR 1
  have fkR_0 := blk_free kR 0
  have fkR_1 := blk_free kR 1
  apply wp_box1 12 108 11 11 #[.int .i64 0, .int .i64 0] 27 (by kernel_rfl) (by rfl) (by kernel_rfl) (by intro o ho a w; simp at ho; subst ho; simp [go_sem, ptr])
  · intro p0
    simp only [heads, ghost, List.take_succ_cons, List.take_zero, List.map_cons, List.map_nil]
    repeat (go_big_quiet_step ((first | (go_at_call 41; with_reducible_and_instances exact gw_call (cS _)) | (go_at_call 45; with_reducible_and_instances exact gw_call (cN _)) | (go_at_call 55; with_reducible_and_instances exact gw_call (cP _)) | (go_at_call 54; with_reducible_and_instances exact gw_call (cK _)))))
    exact wpQuiet_nil rfl
  · intro R bB p0 nB gB  kB hK
    simp only [List.drop_succ_cons, List.drop_zero, Act.put, ptr, List.setIfInBounds_toArray, List.set_cons_succ, List.set_cons_zero]
    have cB_0 : _ = some _ := blk_cell kB 0
    have cB_1 : _ = some _ := blk_cell kB 1
    have fB_0 := blk_free kB 0
    have fB_1 := blk_free kB 1
    have oB := blk_older kB
    go_wp2_with fail
    refine box_end1 gB hK ?_ ?_
    · exact bBel
    · exact (by repeat' (first | with_reducible assumption | with_reducible apply blk_gw | with_reducible apply blk_alloc | with_reducible apply blk_set | ((with_reducible apply blk_other); focus (first | omega | assumption))))
  intro bB p0 nB  kB
  have cB_0 : _ = some _ := blk_cell kB 0
  have cB_1 : _ = some _ := blk_cell kB 1
  have fB_0 := blk_free kB 0
  have fB_1 := blk_free kB 1
  have oB := blk_older kB
  go_upto_region 2 with fail
  refine wp_named ?_
  intro V hV
  have kF2 : blk V w.heap.size #[.int .i64 fx, .int .i64 fy] 27 := by rw [hV]; exact (by apply blk_of; (repeat (first | with_reducible exact kF | with_reducible apply blk_drew | with_reducible apply blk_gw | with_reducible apply blk_alloc | with_reducible apply blk_set | ((with_reducible apply blk_other); focus omega))); (first | rfl | simp))
  have kG2 : blk V (w.heap.size + 1) #[.int .i64 gx, .int .i64 gy] 27 := by rw [hV]; exact (by apply blk_of; (repeat (first | with_reducible exact kG | with_reducible apply blk_drew | with_reducible apply blk_gw | with_reducible apply blk_alloc | with_reducible apply blk_set | ((with_reducible apply blk_other); focus omega))); (first | rfl | simp))
  have kR2 : blk V (w.heap.size + 2) #[.int .i64 0, .int .i64 0] 27 := by rw [hV]; exact (by apply blk_of; (repeat (first | with_reducible exact kR | with_reducible apply blk_drew | with_reducible apply blk_gw | with_reducible apply blk_alloc | with_reducible apply blk_set | ((with_reducible apply blk_other); focus omega))); (first | rfl | simp))
  have kW2 : blk V bB #[.int .i64 wx, .int .i64 wy] 27 := by rw [hV]; exact (by apply blk_of; (repeat (first | with_reducible exact kB | with_reducible apply blk_drew | with_reducible apply blk_gw | with_reducible apply blk_alloc | with_reducible apply blk_set | ((with_reducible apply blk_other); focus omega))); (first | rfl | simp))
  have hbV : Below w.heap.size w V := by rw [hV]; exact bBel
  have hszV := hbV.size
  have g1 : w.heap.size + 2 < bB := by have := newer_ge nB; have := blk_lt kR; omega
  clear hV okF ckF_0 ckF_1 fkF_0 fkF_1 okG ckG_0 ckG_1 fkG_0 fkG_1 okR ckR_0 ckR_1 fkR_0 fkR_1 kF kG kR kB nB cB_0 cB_1 fB_0 fB_1 oB e0 e1 e2 e3 oe cS cN cP cK hbW hszW
  obtain ⟨BW, hBW⟩ : ∃ n, n = bB := ⟨_, rfl⟩
  subst hBW
  obtain ⟨e0, e1, e2, e3⟩ := hc0 V hbV
  have oe := older_of_cell e0
  have okF2 := blk_older kF2
  have ckF2_0 : _ = some _ := blk_cell kF2 0
  have ckF2_1 : _ = some _ := blk_cell kF2 1
  have fkF2_0 := blk_free kF2 0
  have fkF2_1 := blk_free kF2 1
  have okG2 := blk_older kG2
  have ckG2_0 : _ = some _ := blk_cell kG2 0
  have ckG2_1 : _ = some _ := blk_cell kG2 1
  have fkG2_0 := blk_free kG2 0
  have fkG2_1 := blk_free kG2 1
  have okR2 := blk_older kR2
  have ckR2_0 : _ = some _ := blk_cell kR2 0
  have ckR2_1 : _ = some _ := blk_cell kR2 1
  have fkR2_0 := blk_free kR2 0
  have fkR2_1 := blk_free kR2 1
  have okW2 := blk_older kW2
  have ckW2_0 : _ = some _ := blk_cell kW2 0
  have ckW2_1 : _ = some _ := blk_cell kW2 1
  have fkW2_0 := blk_free kW2 0
  have fkW2_1 := blk_free kW2 1
  go_upto_region 2 with fail
  have hlt_V : pb < V.heap.size := Nat.lt_of_lt_of_le hpb hszV
  have hcellV : ∀ w', Below V.heap.size V w' → Below V.heap.size V w' ∧ w'.cell? ⟨w.heap.size, 0, none⟩ = some (.int .i64 fx) ∧ w'.cell? ⟨w.heap.size, 1, none⟩ = some (.int .i64 fy) ∧ w'.cell? ⟨w.heap.size + 1, 0, none⟩ = some (.int .i64 gx) ∧ w'.cell? ⟨w.heap.size + 1, 1, none⟩ = some (.int .i64 gy) ∧ w'.cell? ⟨pb, po, none⟩ = some (.int .i64 px) ∧ w'.cell? ⟨pb, po + 1, none⟩ = some (.int .i64 py) := fun w' h => by
    have h0 := hc0 w' (Below.trans hbV (h.mono hszV))
    have kf := blk_below h kF2
    have kg := blk_below h kG2
    exact ⟨h, blk_cell kf 0, blk_cell kf 1, blk_cell kg 0, blk_cell kg 1, h0.1, h0.2.1⟩
  go_cut [12, 13, 14] (fun s1 s2 s3 wz => ∃ b7 : Nat, s1 = .int .i64 t1 ∧ s2 = .pointer (some ⟨b7, 0, none⟩) ∧ s3 = .bool f1 ∧ V.heap.size ≤ b7 ∧ blk wz b7 #[.int .i64 a1, .int .i64 b1] 27 ∧ Below V.heap.size V wz)
  case first =>
    go_region_held3 (fun w' => Below V.heap.size V w' ∧ w'.cell? ⟨w.heap.size, 0, none⟩ = some (.int .i64 fx) ∧ w'.cell? ⟨w.heap.size, 1, none⟩ = some (.int .i64 fy) ∧ w'.cell? ⟨w.heap.size + 1, 0, none⟩ = some (.int .i64 gx) ∧ w'.cell? ⟨w.heap.size + 1, 1, none⟩ = some (.int .i64 gy) ∧ w'.cell? ⟨pb, po, none⟩ = some (.int .i64 px) ∧ w'.cell? ⟨pb, po + 1, none⟩ = some (.int .i64 py)) (first | (refine hcellV _ ?_; exact bBel)) ((go_at_call 14; refine Calls.mono (gw_at (c1 _)) ?_; rintro e w1 ⟨rfl, q9, rfl⟩))
    all_goals
      go_wp2_with fail
    all_goals
      go_meet
      exact ⟨_, rfl, rfl, rfl, by (try simp); (try omega), (by first | exact bBkn | (apply blk_of; (repeat (first | with_reducible apply blk_set | with_reducible apply blk_gw | with_reducible apply blk_drew | with_reducible apply blk_alloc | with_reducible exact blk_new _ _ _ | ((with_reducible refine blk_at ?_); (simp; done)))); (first | rfl | simp))), bBel⟩
  case rest =>
  obtain ⟨BN, rfl, rfl, rfl, n_BN, kN3, hb_U⟩ := hcut
  generalize wc = U at *
  have kF3 := blk_below hb_U kF2
  have kG3 := blk_below hb_U kG2
  have kR3 := blk_below hb_U kR2
  have kW3 := blk_below hb_U kW2
  have hbU : Below w.heap.size w U := Below.trans hbV (hb_U.mono hszV)
  have hszU := hbU.size
  have g2 : BW < BN := by have := blk_lt kW2; omega
  clear hcellV hb_U e0 e1 e2 e3 oe okF2 ckF2_0 ckF2_1 fkF2_0 fkF2_1 okG2 ckG2_0 ckG2_1 fkG2_0 fkG2_1 okR2 ckR2_0 ckR2_1 fkR2_0 fkR2_1 okW2 ckW2_0 ckW2_1 fkW2_0 fkW2_1 kF2 kG2 kR2 kW2 c1 hbV hlt_V n_BN
  obtain ⟨e0, e1, e2, e3⟩ := hc0 U hbU
  have oe := older_of_cell e0
  have okF3 := blk_older kF3
  have ckF3_0 : _ = some _ := blk_cell kF3 0
  have ckF3_1 : _ = some _ := blk_cell kF3 1
  have fkF3_0 := blk_free kF3 0
  have fkF3_1 := blk_free kF3 1
  have okG3 := blk_older kG3
  have ckG3_0 : _ = some _ := blk_cell kG3 0
  have ckG3_1 : _ = some _ := blk_cell kG3 1
  have fkG3_0 := blk_free kG3 0
  have fkG3_1 := blk_free kG3 1
  go_upto_region 3 with fail
  have hlt_U : pb < U.heap.size := Nat.lt_of_lt_of_le hpb hszU
  have hcellU : ∀ w', Below U.heap.size U w' → Below U.heap.size U w' ∧ w'.cell? ⟨w.heap.size, 0, none⟩ = some (.int .i64 fx) ∧ w'.cell? ⟨w.heap.size, 1, none⟩ = some (.int .i64 fy) ∧ w'.cell? ⟨w.heap.size + 1, 0, none⟩ = some (.int .i64 gx) ∧ w'.cell? ⟨w.heap.size + 1, 1, none⟩ = some (.int .i64 gy) ∧ w'.cell? ⟨pb, po + 2, none⟩ = some (.int .i64 qx) ∧ w'.cell? ⟨pb, po + 2 + 1, none⟩ = some (.int .i64 qy) := fun w' h => by
    have h0 := hc0 w' (Below.trans hbU (h.mono hszU))
    have kf := blk_below h kF3
    have kg := blk_below h kG3
    exact ⟨h, blk_cell kf 0, blk_cell kf 1, blk_cell kg 0, blk_cell kg 1, h0.2.2.1, h0.2.2.2⟩
  go_cut [15, 16, 17] (fun s1 s2 s3 wz => ∃ b7 : Nat, s1 = .int .i64 t2 ∧ s2 = .pointer (some ⟨b7, 0, none⟩) ∧ s3 = .bool f2 ∧ U.heap.size ≤ b7 ∧ blk wz b7 #[.int .i64 a2, .int .i64 b2] 27 ∧ Below U.heap.size U wz)
  case first =>
    go_region_held3 (fun w' => Below U.heap.size U w' ∧ w'.cell? ⟨w.heap.size, 0, none⟩ = some (.int .i64 fx) ∧ w'.cell? ⟨w.heap.size, 1, none⟩ = some (.int .i64 fy) ∧ w'.cell? ⟨w.heap.size + 1, 0, none⟩ = some (.int .i64 gx) ∧ w'.cell? ⟨w.heap.size + 1, 1, none⟩ = some (.int .i64 gy) ∧ w'.cell? ⟨pb, po + 2, none⟩ = some (.int .i64 qx) ∧ w'.cell? ⟨pb, po + 2 + 1, none⟩ = some (.int .i64 qy)) (first | (refine hcellU _ ?_; exact bBel)) ((go_at_call 14; refine Calls.mono (gw_at (c2 _)) ?_; rintro e w1 ⟨rfl, q9, rfl⟩))
    all_goals
      go_wp2_with fail
    all_goals
      go_meet
      exact ⟨_, rfl, rfl, rfl, by (try simp); (try omega), (by first | exact bBkn | (apply blk_of; (repeat (first | with_reducible apply blk_set | with_reducible apply blk_gw | with_reducible apply blk_drew | with_reducible apply blk_alloc | with_reducible exact blk_new _ _ _ | ((with_reducible refine blk_at ?_); (simp; done)))); (first | rfl | simp))), bBel⟩
  case rest =>
  obtain ⟨BM, rfl, rfl, rfl, n_BM, kM4, hb_T⟩ := hcut
  generalize wc = T at *
  have kF4 := blk_below hb_T kF3
  have kG4 := blk_below hb_T kG3
  have kR4 := blk_below hb_T kR3
  have kW4 := blk_below hb_T kW3
  have kN4 := blk_below hb_T kN3
  have hbT : Below w.heap.size w T := Below.trans hbU (hb_T.mono hszU)
  have hszT := hbT.size
  have g3 : BN < BM := by have := blk_lt kN3; omega
  clear hcellU hb_T e0 e1 e2 e3 oe okF3 ckF3_0 ckF3_1 fkF3_0 fkF3_1 okG3 ckG3_0 ckG3_1 fkG3_0 fkG3_1 kF3 kG3 kR3 kW3 kN3 c2 hbU hlt_U n_BM
  obtain ⟨D, hD⟩ : ∃ D : Bool, Hid ((f2 && (!f1 || decide (t2 < t1))) = D) := ⟨_, rfl⟩
  go_upto_region 4 with fail
  go_cut [61] (fun c wz => c = .bool D ∧ wz = T)
  case first =>
    cases f2
    · go_wp2_with fail
      go_meet
      exact ⟨by rw [← hD.out]; rfl, rfl⟩
    · cases f1
      · go_wp2_with fail
        go_meet
        exact ⟨by rw [← hD.out]; rfl, rfl⟩
      · by_cases c5 : t2 < t1
        · have hd : decide (t2 < t1) = true := decide_eq_true c5
          go_wp2_with fail
          go_meet
          exact ⟨by rw [← hD.out, hd]; rfl, rfl⟩
        · have hd : decide (t2 < t1) = false := decide_eq_false c5
          go_wp2_with fail
          go_meet
          exact ⟨by rw [← hD.out, hd]; rfl, rfl⟩
  case rest =>
  obtain ⟨rfl, rfl⟩ := hcut
  have hDY : D = true → Hid ((⟨t4, a4, b4, f4⟩ : Ht) = ⟨t2, a2, b2, true⟩) := fun h => by
    subst h
    have e := hD.out
    rw [Bool.and_eq_true] at e
    obtain ⟨rfl, e2⟩ := e
    show _ = _
    rw [← hh4.out]
    cases f1
    · exact fst2_2
    · exact fst2_3 (of_decide_eq_true (by simpa using e2))
  have hDN : D = false → Hid ((⟨t4, a4, b4, f4⟩ : Ht) = ⟨t1, a1, b1, f1⟩) := fun h => by
    subst h
    have e := hD.out
    show _ = _
    rw [← hh4.out]
    cases f2
    · exact fst2_1
    · cases f1
      · cases e
      · exact fst2_4 (of_decide_eq_false (by simpa using e))
  clear hD hh4
  go_upto_if 61 with fail
  go_cut [12, 14] (fun s1 s3 wz => s1 = .int .i64 t4 ∧ s3 = .bool f4 ∧ blk wz w.heap.size #[.int .i64 fx, .int .i64 fy] 27 ∧ blk wz (w.heap.size + 1) #[.int .i64 gx, .int .i64 gy] 27 ∧ blk wz (w.heap.size + 2) #[.int .i64 0, .int .i64 0] 27 ∧ blk wz BW #[.int .i64 wx, .int .i64 wy] 27 ∧ blk wz BN #[.int .i64 a4, .int .i64 b4] 27 ∧ blk wz BM #[.int .i64 a2, .int .i64 b2] 27 ∧ Below w.heap.size w wz)
  case first =>
    have okN4 := blk_older kN4
    have ckN4_0 : _ = some _ := blk_cell kN4 0
    have ckN4_1 : _ = some _ := blk_cell kN4 1
    have fkN4_0 := blk_free kN4 0
    have fkN4_1 := blk_free kN4 1
    have okM4 := blk_older kM4
    have ckM4_0 : _ = some _ := blk_cell kM4 0
    have ckM4_1 : _ = some _ := blk_cell kM4 1
    have fkM4_0 := blk_free kM4 0
    have fkM4_1 := blk_free kM4 1
    cases D
    · cases (hDN rfl).out
      clear hDN hDY
      go_wp2_with fail
      go_meet
      exact ⟨rfl, rfl, kF4, kG4, kR4, kW4, kN4, kM4, hbT⟩
    · cases (hDY rfl).out
      clear hDN hDY
      go_wp2_with fail
      go_meet
      exact ⟨rfl, rfl, (by apply blk_of; (repeat (first | with_reducible exact kF4 | with_reducible apply blk_drew | with_reducible apply blk_gw | with_reducible apply blk_alloc | with_reducible apply blk_set | ((with_reducible apply blk_other); focus omega))); (first | rfl | simp)), (by apply blk_of; (repeat (first | with_reducible exact kG4 | with_reducible apply blk_drew | with_reducible apply blk_gw | with_reducible apply blk_alloc | with_reducible apply blk_set | ((with_reducible apply blk_other); focus omega))); (first | rfl | simp)), (by apply blk_of; (repeat (first | with_reducible exact kR4 | with_reducible apply blk_drew | with_reducible apply blk_gw | with_reducible apply blk_alloc | with_reducible apply blk_set | ((with_reducible apply blk_other); focus omega))); (first | rfl | simp)), (by apply blk_of; (repeat (first | with_reducible exact kW4 | with_reducible apply blk_drew | with_reducible apply blk_gw | with_reducible apply blk_alloc | with_reducible apply blk_set | ((with_reducible apply blk_other); focus omega))); (first | rfl | simp)), (by apply blk_of; (repeat (first | with_reducible exact kN4 | with_reducible apply blk_drew | with_reducible apply blk_gw | with_reducible apply blk_alloc | with_reducible apply blk_set | ((with_reducible apply blk_other); focus omega))); (first | rfl | simp)), (by apply blk_of; (repeat (first | with_reducible exact kM4 | with_reducible apply blk_drew | with_reducible apply blk_gw | with_reducible apply blk_alloc | with_reducible apply blk_set | ((with_reducible apply blk_other); focus omega))); (first | rfl | simp)), bBel⟩
  case rest =>
  obtain ⟨rfl, rfl, kF5, kG5, kR5, kW5, kN5, kM5, hbY⟩ := hcut
  generalize wc = Y at *
  have hszY := hbY.size
  clear hDN hDY kF4 kG4 kR4 kW4 kN4 kM4 hbT hszT
  obtain ⟨e0, e1, e2, e3⟩ := hc0 Y hbY
  have oe := older_of_cell e0
  have okF5 := blk_older kF5
  have ckF5_0 : _ = some _ := blk_cell kF5 0
  have ckF5_1 : _ = some _ := blk_cell kF5 1
  have fkF5_0 := blk_free kF5 0
  have fkF5_1 := blk_free kF5 1
  have okG5 := blk_older kG5
  have ckG5_0 : _ = some _ := blk_cell kG5 0
  have ckG5_1 : _ = some _ := blk_cell kG5 1
  have fkG5_0 := blk_free kG5 0
  have fkG5_1 := blk_free kG5 1
  have okW5 := blk_older kW5
  have ckW5_0 : _ = some _ := blk_cell kW5 0
  have ckW5_1 : _ = some _ := blk_cell kW5 1
  have fkW5_0 := blk_free kW5 0
  have fkW5_1 := blk_free kW5 1
  go_upto_region 8 with fail
  refine wp_region_gw_tail 20 (by kernel_rfl) (by kernel_rfl) ?_
  simp only [List.take_succ_cons, List.take_zero, List.drop_succ_cons, List.drop_zero]
  repeat (go_big_quiet_step ((first | (go_at_call 41; with_reducible_and_instances exact gw_call (d1 _)) | (go_at_call 41; with_reducible_and_instances exact gw_call (d2 _)) | (go_at_call 56; with_reducible_and_instances exact gw_call (d3 _)) | (go_at_call 56; with_reducible_and_instances exact gw_call (d4 _)))))
  refine wpQuiet_nil ?_
  intro w1 hw1
  obtain ⟨q, rfl⟩ := hw1
  go_upto_region 9 with fail
  refine wp_named ?_
  intro X hX
  have kF6 : blk X w.heap.size #[.int .i64 fx, .int .i64 fy] 27 := by rw [hX]; exact (by apply blk_of; (repeat (first | with_reducible exact kF5 | with_reducible apply blk_drew | with_reducible apply blk_gw | with_reducible apply blk_alloc | with_reducible apply blk_set | ((with_reducible apply blk_other); focus omega))); (first | rfl | simp))
  have kG6 : blk X (w.heap.size + 1) #[.int .i64 gx, .int .i64 gy] 27 := by rw [hX]; exact (by apply blk_of; (repeat (first | with_reducible exact kG5 | with_reducible apply blk_drew | with_reducible apply blk_gw | with_reducible apply blk_alloc | with_reducible apply blk_set | ((with_reducible apply blk_other); focus omega))); (first | rfl | simp))
  have kR6 : blk X (w.heap.size + 2) #[.int .i64 0, .int .i64 0] 27 := by rw [hX]; exact (by apply blk_of; (repeat (first | with_reducible exact kR5 | with_reducible apply blk_drew | with_reducible apply blk_gw | with_reducible apply blk_alloc | with_reducible apply blk_set | ((with_reducible apply blk_other); focus omega))); (first | rfl | simp))
  have kN6 : blk X BN #[.int .i64 a4, .int .i64 b4] 27 := by rw [hX]; exact (by apply blk_of; (repeat (first | with_reducible exact kN5 | with_reducible apply blk_drew | with_reducible apply blk_gw | with_reducible apply blk_alloc | with_reducible apply blk_set | ((with_reducible apply blk_other); focus omega))); (first | rfl | simp))
  have kM6 : blk X BM #[.int .i64 a2, .int .i64 b2] 27 := by rw [hX]; exact (by apply blk_of; (repeat (first | with_reducible exact kM5 | with_reducible apply blk_drew | with_reducible apply blk_gw | with_reducible apply blk_alloc | with_reducible apply blk_set | ((with_reducible apply blk_other); focus omega))); (first | rfl | simp))
  have kB6 : blk X (Y.heap.size + q.os.size) #[.int .i64 x1, .int .i64 y1, .int .i64 x2, .int .i64 y2, .int .i64 x3, .int .i64 y3, .int .i64 x4, .int .i64 y4] 27 := by rw [hX]; exact bBkn
  have hbX : Below w.heap.size w X := by rw [hX]; exact bBel
  have hszX := hbX.size
  have c3' : ∀ w', Below X.heap.size X w' → Calls Tryz.prog 15 #[.slice (some ⟨Y.heap.size + q.os.size, 0, none⟩) 4 4, .agg #[.int .i64 fx, .int .i64 fy], .agg #[.int .i64 gx, .int .i64 gy]] w' fun e w'' => e = .returned (.tuple #[.int .i64 t3, .agg #[.int .i64 a3, .int .i64 b3], .bool f3]) ∧ Below w'.heap.size w' w'' := fun w' h => c3 _ w' (blk_to kB6 h)
  clear hX kF5 kG5 kR5 kW5 kN5 kM5 okF5 ckF5_0 ckF5_1 fkF5_0 fkF5_1 okG5 ckG5_0 ckG5_1 fkG5_0 fkG5_1 okW5 ckW5_0 ckW5_1 fkW5_0 fkW5_1 e0 e1 e2 e3 oe hc0 d1 d2 d3 d4 c3 hbY hszY
  generalize Y.heap.size + q.os.size = BB at *
  have okF6 := blk_older kF6
  have ckF6_0 : _ = some _ := blk_cell kF6 0
  have ckF6_1 : _ = some _ := blk_cell kF6 1
  have fkF6_0 := blk_free kF6 0
  have fkF6_1 := blk_free kF6 1
  have okG6 := blk_older kG6
  have ckG6_0 : _ = some _ := blk_cell kG6 0
  have ckG6_1 : _ = some _ := blk_cell kG6 1
  have fkG6_0 := blk_free kG6 0
  have fkG6_1 := blk_free kG6 1
  have okR6 := blk_older kR6
  have ckR6_0 : _ = some _ := blk_cell kR6 0
  have ckR6_1 : _ = some _ := blk_cell kR6 1
  have fkR6_0 := blk_free kR6 0
  have fkR6_1 := blk_free kR6 1
  have okN6 := blk_older kN6
  have ckN6_0 : _ = some _ := blk_cell kN6 0
  have ckN6_1 : _ = some _ := blk_cell kN6 1
  have fkN6_0 := blk_free kN6 0
  have fkN6_1 := blk_free kN6 1
  have okM6 := blk_older kM6
  have ckM6_0 : _ = some _ := blk_cell kM6 0
  have ckM6_1 : _ = some _ := blk_cell kM6 1
  have fkM6_0 := blk_free kM6 0
  have fkM6_1 := blk_free kM6 1
  have g0 : w.heap.size + 2 < BN := by omega
  cases f3
  · have e := hR.out
    rw [fst2_1] at e
    cases e
    go_upto_region 12 with (go_at_call 15; refine Calls.mono (gw_at (c3' _ bBel)) ?_; rintro e w1 ⟨rfl, q3, rfl⟩)
    go_region
    go_wp2_with fail
    refine post_named ?_
    intro Z hZ
    have kZ : blk Z (w.heap.size + 2) #[.int .i64 x, .int .i64 y] 27 := by rw [hZ]; exact (by apply blk_of; (repeat (first | with_reducible exact kR6 | with_reducible apply blk_drew | with_reducible apply blk_gw | with_reducible apply blk_alloc | with_reducible apply blk_set | ((with_reducible apply blk_other); focus omega))); (first | rfl | simp))
    have hbZ : Below w.heap.size w Z := by rw [hZ]; exact bBel
    clear hZ
    have okZ := blk_older kZ
    have ckZ_0 : _ = some _ := blk_cell kZ 0
    have ckZ_1 : _ = some _ := blk_cell kZ 1
    have fkZ_0 := blk_free kZ 0
    have fkZ_1 := blk_free kZ 1
    refine bodyPost_ret (v := .tuple #[.int .i64 t, .agg #[.int .i64 x, .int .i64 y], .bool b]) (by simp [results, Tryz.results16, go_sem, ckZ_0, ckZ_1]) rfl ⟨rfl, hbZ⟩
  cases f4
  · have e := hR.out
    rw [fst2_2] at e
    cases e
    go_upto_region 11 with (go_at_call 15; refine Calls.mono (gw_at (c3' _ bBel)) ?_; rintro e w1 ⟨rfl, q3, rfl⟩)
    go_region
    go_wp2_with fail
    refine post_named ?_
    intro Z hZ
    have kZ : blk Z (w.heap.size + 2) #[.int .i64 x, .int .i64 y] 27 := by rw [hZ]; exact (by apply blk_of; (repeat (first | with_reducible exact kR6 | with_reducible apply blk_drew | with_reducible apply blk_gw | with_reducible apply blk_alloc | with_reducible apply blk_set | ((with_reducible apply blk_other); focus omega))); (first | rfl | simp))
    have hbZ : Below w.heap.size w Z := by rw [hZ]; exact bBel
    clear hZ
    have okZ := blk_older kZ
    have ckZ_0 : _ = some _ := blk_cell kZ 0
    have ckZ_1 : _ = some _ := blk_cell kZ 1
    have fkZ_0 := blk_free kZ 0
    have fkZ_1 := blk_free kZ 1
    refine bodyPost_ret (v := .tuple #[.int .i64 t, .agg #[.int .i64 x, .int .i64 y], .bool true]) (by simp [results, Tryz.results16, go_sem, ckZ_0, ckZ_1]) rfl ⟨rfl, hbZ⟩
  by_cases c5 : t3 < t4
  · have e := hR.out
    rw [fst2_3 c5] at e
    cases e
    go_upto_region 11 with (go_at_call 15; refine Calls.mono (gw_at (c3' _ bBel)) ?_; rintro e w1 ⟨rfl, q3, rfl⟩)
    go_region
    go_wp2_with fail
    refine post_named ?_
    intro Z hZ
    have kZ : blk Z (w.heap.size + 2) #[.int .i64 x, .int .i64 y] 27 := by rw [hZ]; exact (by apply blk_of; (repeat (first | with_reducible exact kR6 | with_reducible apply blk_drew | with_reducible apply blk_gw | with_reducible apply blk_alloc | with_reducible apply blk_set | ((with_reducible apply blk_other); focus omega))); (first | rfl | simp))
    have hbZ : Below w.heap.size w Z := by rw [hZ]; exact bBel
    clear hZ
    have okZ := blk_older kZ
    have ckZ_0 : _ = some _ := blk_cell kZ 0
    have ckZ_1 : _ = some _ := blk_cell kZ 1
    have fkZ_0 := blk_free kZ 0
    have fkZ_1 := blk_free kZ 1
    refine bodyPost_ret (v := .tuple #[.int .i64 t, .agg #[.int .i64 x, .int .i64 y], .bool true]) (by simp [results, Tryz.results16, go_sem, ckZ_0, ckZ_1]) rfl ⟨rfl, hbZ⟩
  · have e := hR.out
    rw [fst2_4 c5] at e
    cases e
    go_upto_region 12 with (go_at_call 15; refine Calls.mono (gw_at (c3' _ bBel)) ?_; rintro e w1 ⟨rfl, q3, rfl⟩)
    go_region
    go_wp2_with fail
    refine post_named ?_
    intro Z hZ
    have kZ : blk Z (w.heap.size + 2) #[.int .i64 x, .int .i64 y] 27 := by rw [hZ]; exact (by apply blk_of; (repeat (first | with_reducible exact kR6 | with_reducible apply blk_drew | with_reducible apply blk_gw | with_reducible apply blk_alloc | with_reducible apply blk_set | ((with_reducible apply blk_other); focus omega))); (first | rfl | simp))
    have hbZ : Below w.heap.size w Z := by rw [hZ]; exact bBel
    clear hZ
    have okZ := blk_older kZ
    have ckZ_0 : _ = some _ := blk_cell kZ 0
    have ckZ_1 : _ = some _ := blk_cell kZ 1
    have fkZ_0 := blk_free kZ 0
    have fkZ_1 := blk_free kZ 1
    refine bodyPost_ret (v := .tuple #[.int .i64 t, .agg #[.int .i64 x, .int .i64 y], .bool true]) (by simp [results, Tryz.results16, go_sem, ckZ_0, ckZ_1]) rfl ⟨rfl, hbZ⟩

end Go.Proofs.YtpdhfhcfjdnlpaaGreat
