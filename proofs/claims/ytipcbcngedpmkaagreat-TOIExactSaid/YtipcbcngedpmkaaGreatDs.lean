/- Contracts of chapter 17's reference: Separation, Overlap, ToPoint. -/
import Derived.Test.YtipcbcngedpmkaaGreatDr
set_option linter.unusedVariables false
namespace Go.Proofs.YtipcbcngedpmkaaGreat
open Go.RowKit Fx

theorem core_st {w : World} {A : Option Addr} {L : List Pt} (h : Pts w A (stL L)) : ∃ b off, A = some ⟨b, off, none⟩ ∧ b < w.heap.size ∧ ∀ w', Below w.heap.size w w' → ∀ i, i < nsg L → w'.cell? ⟨b, off + i * 2, none⟩ = some (.int .i64 (hp' L i).1) ∧ w'.cell? ⟨b, off + i * 2 + 1, none⟩ = some (.int .i64 (hp' L i).2) := by
  obtain ⟨b, off, e, hb, hc⟩ := pts_at h (by rw [stL_len]; exact nsg_pos L)
  refine ⟨b, off, e, hb, fun w' hw i hi => ?_⟩
  have := hc w' hw i (by rw [stL_len]; exact hi)
  rw [stL_get] at this
  exact this
theorem core_en {w : World} {A : Option Addr} {L : List Pt} (h : Pts w A (enL L)) : ∃ b off, A = some ⟨b, off, none⟩ ∧ b < w.heap.size ∧ ∀ w', Below w.heap.size w w' → ∀ i, i < nsg L → w'.cell? ⟨b, off + i * 2, none⟩ = some (.int .i64 (hp' L (i + 1)).1) ∧ w'.cell? ⟨b, off + i * 2 + 1, none⟩ = some (.int .i64 (hp' L (i + 1)).2) := by
  obtain ⟨b, off, e, hb, hc⟩ := pts_at h (by rw [enL_len]; exact nsg_pos L)
  refine ⟨b, off, e, hb, fun w' hw i hi => ?_⟩
  have := hc w' hw i (by rw [enL_len]; exact hi)
  rw [enL_get] at this
  exact this

set_option maxRecDepth 100000 in
set_option maxHeartbeats 32000000 in
theorem rsep17_b (K R K2 R2 : Int) (A B_ : Option Addr) (ca cb : Nat) (ps qs : List (Int × Int)) (px py pa qx qy qa : Int) (hl : ps.length ≤ 1000000) (hm : qs.length ≤ 1000000) (w : World) (hp : Pts w A ps) (hq : Pts w B_ qs) : Calls Tryz.prog 14 #[.agg #[.int .i64 K, .int .i64 R, .slice A ps.length ca], .agg #[.int .i64 px, .int .i64 py, .int .i64 pa], .agg #[.int .i64 K2, .int .i64 R2, .slice B_ qs.length cb], .agg #[.int .i64 qx, .int .i64 qy, .int .i64 qa]] w fun e w' => e = .returned (.int .i64 (sepS K R ps px py pa K2 R2 qs qx qy qa)) ∧ Below w.heap.size w w' := by
  have cV := fun w' h => rval_b K R A ca ps (by omega) w' h
  have cU := fun w' h => rval_b K2 R2 B_ cb qs (by omega) w' h
  by_cases hv1 : valS K R ps = 0
  rotate_left
  · rw [sepS_val _ _ _ _ _ _ fun h => hv1 h.1]
    have b1 : (valS K R ps != 0) = true := by rw [bne_iff_ne]; exact hv1
    generalize valS K R ps = V at *
    clear hv1
    go_enter Tryz.func14, Tryz.ntmps14
    go_wp2_with (go_at_call 13; refine Calls.mono (gw_at (cV _ (Pts.to hp bBel))) ?_; rintro e w1 ⟨rfl, q, rfl⟩)
    go_ret
    exact ⟨rfl, bBel⟩
  by_cases hv2 : valS K2 R2 qs = 0
  rotate_left
  · rw [sepS_val _ _ _ _ _ _ fun h => hv2 h.2]
    have b1 : (valS K2 R2 qs != 0) = true := by rw [bne_iff_ne]; exact hv2
    rw [hv1] at cV
    generalize valS K2 R2 qs = V at *
    clear hv1 hv2
    go_enter Tryz.func14, Tryz.ntmps14
    go_wp2_with (first | (go_at_call 13; (with_reducible show Calls _ _ #[.agg #[.int .i64 K, .int .i64 R, .slice A _ _]] _ _); refine Calls.mono (gw_at (cV _ (Pts.to hp bBel))) ?_; rintro e w1 ⟨rfl, q, rfl⟩) | (go_at_call 13; (with_reducible show Calls _ _ #[.agg #[.int .i64 K2, .int .i64 R2, .slice B_ _ _]] _ _); refine Calls.mono (gw_at (cU _ (Pts.to hq bBel))) ?_; rintro e w1 ⟨rfl, q2, rfl⟩))
    go_ret
    exact ⟨rfl, bBel⟩
  rw [hv1] at cV
  rw [hv2] at cU
  have cI := fun w' h h' => rcc_b K R K2 R2 A B_ ca cb ps qs px py pa qx qy qa (by omega) (by omega) hv1 hv2 w' h h'
  have cJ := fun w' h h' => rcc_b K2 R2 K R B_ A cb ca qs ps qx qy qa px py pa (by omega) (by omega) hv2 hv1 w' h h'
  have cA := fun w' h => rsgm_b K R A ca ps px py pa (by omega) hv1 w' h
  have cB := fun w' h => rsgm_b K2 R2 B_ cb qs qx qy qa (by omega) hv2 w' h
  obtain ⟨e1, h1, h8⟩ := core_hp (px := px) (py := py) (a := pa) hv1
  obtain ⟨e2, g1, g8⟩ := core_hp (px := qx) (py := qy) (a := qa) hv2
  have hS : Hid (sepS K R ps px py pa K2 R2 qs qx qy qa = if (inpol K (core K R ps px py pa) (hp' (core K2 R2 qs qx qy qa) 0) || inpol K2 (core K2 R2 qs qx qy qa) (hp' (core K R ps px py pa) 0)) = true then 0 else max 0 (sub (sub (gap (core K R ps px py pa) (core K2 R2 qs qx qy qa)) R) R2)) := by
    show _ = _; unfold sepS; rw [if_pos ⟨hv1, hv2⟩, e1, e2]; rfl
  clear e1 e2 hv1 hv2
  generalize sepS K R ps px py pa K2 R2 qs qx qy qa = S at *
  generalize core K R ps px py pa = L at *
  generalize core K2 R2 qs qx qy qa = M at *
  generalize inpol K L (hp' M 0) = D1 at *
  generalize inpol K2 M (hp' L 0) = D2 at *
  have n1 : nsg L ≤ 1000000 := by unfold nsg; split <;> omega
  have n2 : nsg M ≤ 1000000 := by unfold nsg; split <;> omega
  cases D1
  rotate_left
  · have hS3 : Hid (S = 0) := hS.out
    clear hS
    go_enter Tryz.func14, Tryz.ntmps14
    go_wp2_with (first | (go_at_call 13; (with_reducible show Calls _ _ #[.agg #[.int .i64 K, .int .i64 R, .slice A _ _]] _ _); refine Calls.mono (gw_at (cV _ (Pts.to hp bBel))) ?_; rintro e w1 ⟨rfl, q, rfl⟩) | (go_at_call 13; (with_reducible show Calls _ _ #[.agg #[.int .i64 K2, .int .i64 R2, .slice B_ _ _]] _ _); refine Calls.mono (gw_at (cU _ (Pts.to hq bBel))) ?_; rintro e w1 ⟨rfl, q2, rfl⟩) | (go_at_call 45; (with_reducible show Calls _ _ #[.agg #[.int .i64 K, .int .i64 R, .slice A _ _], _, _, _] _ _); refine Calls.mono (gw_at (cI _ (Pts.to hp bBel) (Pts.to hq bBel))) ?_; rintro e w1 ⟨rfl, q3, rfl⟩))
    go_ret
    exact ⟨by rw [hS3.out]; rfl, bBel⟩
  cases D2
  rotate_left
  · have hS3 : Hid (S = 0) := hS.out
    clear hS
    go_enter Tryz.func14, Tryz.ntmps14
    go_wp2_with (first | (go_at_call 13; (with_reducible show Calls _ _ #[.agg #[.int .i64 K, .int .i64 R, .slice A _ _]] _ _); refine Calls.mono (gw_at (cV _ (Pts.to hp bBel))) ?_; rintro e w1 ⟨rfl, q, rfl⟩) | (go_at_call 13; (with_reducible show Calls _ _ #[.agg #[.int .i64 K2, .int .i64 R2, .slice B_ _ _]] _ _); refine Calls.mono (gw_at (cU _ (Pts.to hq bBel))) ?_; rintro e w1 ⟨rfl, q2, rfl⟩) | (go_at_call 45; (with_reducible show Calls _ _ #[.agg #[.int .i64 K, .int .i64 R, .slice A _ _], _, _, _] _ _); refine Calls.mono (gw_at (cI _ (Pts.to hp bBel) (Pts.to hq bBel))) ?_; rintro e w1 ⟨rfl, q3, rfl⟩) | (go_at_call 45; (with_reducible show Calls _ _ #[.agg #[.int .i64 K2, .int .i64 R2, .slice B_ _ _], _, _, _] _ _); refine Calls.mono (gw_at (cJ _ (Pts.to hq bBel) (Pts.to hp bBel))) ?_; rintro e w1 ⟨rfl, q4, rfl⟩))
    go_ret
    exact ⟨by rw [hS3.out]; rfl, bBel⟩
  obtain ⟨G, hG⟩ : ∃ G : Nat → Int, G = fun i => mn2 (sgd L M) (nsg M) 536870911 i := ⟨_, rfl⟩
  have hG0 : G 0 = 536870911 := by rw [hG]; rfl
  have hG1 : Hid (∀ i, G (i + 1) = mn1 (sgd L M i) (G i) (nsg M)) := fun i => by rw [hG]; rfl
  have hGe : gap L M = G (nsg L) := by rw [hG]; rfl
  have hD : Hid (∀ i k, sgd L M i k = sdist (hp' L i).1 (hp' L i).2 (hp' L (i + 1)).1 (hp' L (i + 1)).2 (hp' M k).1 (hp' M k).2 (hp' M (k + 1)).1 (hp' M (k + 1)).2) := fun i k => rfl
  have hS3 : Hid (S = max 0 (sub (sub (G (nsg L)) R) R2)) := by show _ = _; rw [hS.out, hGe]; rfl
  clear hS hG hGe
  go_enter Tryz.func14, Tryz.ntmps14
  go_upto_region 7 with (first | (go_at_call 13; (with_reducible show Calls _ _ #[.agg #[.int .i64 K, .int .i64 R, .slice A _ _]] _ _); refine Calls.mono (gw_at (cV _ (Pts.to hp bBel))) ?_; rintro e w1 ⟨rfl, q, rfl⟩) | (go_at_call 13; (with_reducible show Calls _ _ #[.agg #[.int .i64 K2, .int .i64 R2, .slice B_ _ _]] _ _); refine Calls.mono (gw_at (cU _ (Pts.to hq bBel))) ?_; rintro e w1 ⟨rfl, q2, rfl⟩) | (go_at_call 45; (with_reducible show Calls _ _ #[.agg #[.int .i64 K, .int .i64 R, .slice A _ _], _, _, _] _ _); refine Calls.mono (gw_at (cI _ (Pts.to hp bBel) (Pts.to hq bBel))) ?_; rintro e w1 ⟨rfl, q3, rfl⟩) | (go_at_call 45; (with_reducible show Calls _ _ #[.agg #[.int .i64 K2, .int .i64 R2, .slice B_ _ _], _, _, _] _ _); refine Calls.mono (gw_at (cJ _ (Pts.to hq bBel) (Pts.to hp bBel))) ?_; rintro e w1 ⟨rfl, q4, rfl⟩) | (go_at_call 46; (with_reducible show Calls _ _ #[.agg #[.int .i64 K, .int .i64 R, .slice A _ _], _] _ _); refine Calls.mono (cA _ (Pts.to hp bBel)) ?_; rintro e w1 ⟨⟨A1, c1, A2, c2, rfl, hP1, hP2⟩, q5, rfl⟩) | (go_at_call 46; (with_reducible show Calls _ _ #[.agg #[.int .i64 K2, .int .i64 R2, .slice B_ _ _], _] _ _); refine Calls.mono (cB _ (Pts.to hq bBel)) ?_; rintro e w1 ⟨⟨A3, c3, A4, c4, rfl, hP3, hP4⟩, q6, rfl⟩))
  refine wp_named ?_
  intro W hW
  have kA : blk W w.heap.size #[.int .i64 K, .int .i64 R, .slice A ps.length ca] 25 := by rw [hW]; exact bBkn
  have kB : blk W (w.heap.size + 2) #[.int .i64 K2, .int .i64 R2, .slice B_ qs.length cb] 25 := by rw [hW]; exact bBkn
  have hbW : Below w.heap.size w W := by rw [hW]; exact bBel
  have hQ1 : Pts W A1 (stL L) := by rw [hW]; exact Pts.to hP1 bBel
  have hQ2 : Pts W A2 (enL L) := by rw [hW]; exact Pts.to hP2 bBel
  have hQ3 : Pts W A3 (stL M) := by rw [hW]; exact Pts.to hP3 bBel
  have hQ4 : Pts W A4 (enL M) := by rw [hW]; exact Pts.to hP4 bBel
  clear hW hP1 hP2 hP3 hP4 cV cU cI cJ cA cB
  have hszW := hbW.size
  obtain ⟨b1, o1, rfl, hb1, hc1⟩ := core_st hQ1
  obtain ⟨b2, o2, rfl, hb2, hc2⟩ := core_en hQ2
  obtain ⟨b3, o3, rfl, hb3, hc3⟩ := core_st hQ3
  obtain ⟨b4, o4, rfl, hb4, hc4⟩ := core_en hQ4
  have kc1 : Hid _ := hc1
  have kc2 : Hid _ := hc2
  have kc3 : Hid _ := hc3
  have kc4 : Hid _ := hc4
  clear hQ1 hQ2 hQ3 hQ4 hc1 hc2 hc3 hc4
  generalize nsg L = n at *
  generalize nsg M = t at *
  generalize sgd L M = D at *
  go_wp2_with fail
  go_loopw [13, 14] (fun s i wr => ∃ k : Nat, k ≤ n ∧ i = .int .i64 (k : Int) ∧ s = .int .i64 (G k) ∧ Below W.heap.size W wr)
    (fun _ i _ => (n - intOf i).toNat)
  case atStart => exact ⟨0, by omega, rfl, by rw [hG0], by first | exact Below.refl _ _ | exact bBel⟩
  case round =>
    obtain ⟨k, hk, rfl, rfl, hbR⟩ := hrel
    have hszR := hbR.size
    by_cases hlt : k < n
    · have i0 : (0 : Int) ≤ (k : Int) := by omega
      have i1 : (k : Int) < (n : Int) := by omega
      have hsk : Hid (∀ j, D k j = _) := fun j => hD.out k j
      have hs1 : Hid (G (k + 1) = mn1 (D k) (G k) t) := hG1.out k
      have gc1 : Hid (∀ w', Below W.heap.size W w' → _) := fun w' h => kc1.out w' h k hlt
      have gc2 : Hid (∀ w', Below W.heap.size W w' → _) := fun w' h => kc2.out w' h k hlt
      generalize (hp' L k).1 = x0 at *
      generalize (hp' L k).2 = y0 at *
      generalize (hp' L (k + 1)).1 = x1 at *
      generalize (hp' L (k + 1)).2 = y1 at *
      generalize G k = g0 at *
      generalize D k = F at *
      go_wp2_with fail
      go_loopw [13, 15] (fun s j wx => ∃ p : Nat, p ≤ t ∧ j = .int .i64 (p : Int) ∧ s = .int .i64 (mn1 F g0 p) ∧ Below W.heap.size W wx)
        (fun _ j _ => (t - intOf j).toNat)
      case atStart => exact ⟨0, by omega, rfl, rfl, by first | exact hbR | exact bBel⟩
      case round =>
        obtain ⟨p, hp2, rfl, rfl, hbX⟩ := hrel
        have hszX := hbX.size
        by_cases hpt : p < t
        · have p0 : (0 : Int) ≤ (p : Int) := by omega
          have p1 : (p : Int) < (t : Int) := by omega
          obtain ⟨d0, d1⟩ := gc1.out _ hbX
          obtain ⟨d2, d3⟩ := gc2.out _ hbX
          obtain ⟨e0, e1⟩ := kc3.out _ hbX p hpt
          obtain ⟨e2, e3⟩ := kc4.out _ hbX p hpt
          have ob1 := older_of_cell d0
          have ob2 := older_of_cell d2
          have ob3 := older_of_cell e0
          have ob4 := older_of_cell e2
          have hsp : Hid (mn1 F g0 (p + 1) = min (mn1 F g0 p) (F p)) := rfl
          have hFp := hsk.out p
          generalize (hp' M p).1 = u0 at *
          generalize (hp' M p).2 = v0 at *
          generalize (hp' M (p + 1)).1 = u1 at *
          generalize (hp' M (p + 1)).2 = v1 at *
          have cD := fun w' => rsdist_b x0 y0 x1 y1 u0 v0 u1 v1 w'
          rw [← hFp] at cD
          clear hFp
          generalize F p = d at *
          generalize mn1 F g0 p = s0 at *
          go_wp2_with fail
          refine wp_region_gw (by kernel_rfl) (by kernel_rfl) ?_
          repeat (go_big_quiet_step ((first | (go_at_call 47; with_reducible_and_instances exact gw_call (cD _)))))
          refine wpQuiet_nil ?_
          intro w1 hw1
          obtain ⟨q, rfl⟩ := hw1
          go_wp2_with fail
          exact ⟨⟨p + 1, by omega, by go_num, by rw [hsp.out], Below.trans hbX (Below.mono bBel hszX)⟩, by (try go_num); simp [intOf]; (try omega)⟩
        · obtain rfl : p = t := by omega
          have p1 : ¬ (p : Int) < (p : Int) := by omega
          go_wp2_with fail
          exact ⟨⟨k + 1, by omega, by go_num, by rw [hs1.out], hbX⟩, by (try go_num); simp [intOf]; (try omega)⟩
    · obtain rfl : k = n := by omega
      have i1 : ¬ (k : Int) < (k : Int) := by omega
      have kA1 := blk_to kA hbR
      have kB1 := blk_to kB hbR
      have hbWR : Below w.heap.size w wr := Below.trans hbW (hbR.mono hszW)
      have hszWR := hbWR.size
      have okA1 := blk_older kA1
      have ckA1_0 : _ = some _ := blk_cell kA1 0
      have ckA1_1 : _ = some _ := blk_cell kA1 1
      have ckA1_2 : _ = some _ := blk_cell kA1 2
      have fkA1_0 := blk_free kA1 0
      have fkA1_1 := blk_free kA1 1
      have fkA1_2 := blk_free kA1 2
      have okB1 := blk_older kB1
      have ckB1_0 : _ = some _ := blk_cell kB1 0
      have ckB1_1 : _ = some _ := blk_cell kB1 1
      have ckB1_2 : _ = some _ := blk_cell kB1 2
      have fkB1_0 := blk_free kB1 0
      have fkB1_1 := blk_free kB1 1
      have fkB1_2 := blk_free kB1 2
      go_wp2_with fail
      refine wp_region_gw (by kernel_rfl) (by kernel_rfl) ?_
      repeat (go_big_quiet_step ((first | (go_at_call 13; exact gw_call (cV _ (Pts.to hP bBel))) | (go_at_call 47; exact gw_call (rsdist_b _ _ _ _ _ _ _ _ _)) | (go_at_call 48; exact gw_call (rsub_b _ _ _)))))
      refine wpQuiet_nil ?_
      intro w1 hw1
      obtain ⟨q, rfl⟩ := hw1
      go_wp2_with fail
      go_ret
      exact ⟨by rw [hS3.out, Int.max_comm]; rfl, bBel⟩

end Go.Proofs.YtipcbcngedpmkaaGreat
