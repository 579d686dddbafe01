/- Contracts of chapter 17's reference: Overlap, ToPoint. -/
import Derived.Test.YtennbncbahpflaaGreatDs
set_option linter.unusedVariables false
namespace Go.Proofs.YtennbncbahpflaaGreat
open Go.RowKit Fx

set_option maxHeartbeats 8000000 in
theorem rovl17_b (K R K2 R2 : Int) (A B_ : Option Addr) (ca cb : Nat) (ps qs : List (Int × Int)) (px py pa qx qy qa : Int) (hl : ps.length ≤ 1000000) (hm : qs.length ≤ 1000000) (w : World) (hp : Pts w A ps) (hq : Pts w B_ qs) : Calls Tryz.prog 10 #[.agg #[.int .i64 K, .int .i64 R, .slice A ps.length ca], .agg #[.int .i64 px, .int .i64 py, .int .i64 pa], .agg #[.int .i64 K2, .int .i64 R2, .slice B_ qs.length cb], .agg #[.int .i64 qx, .int .i64 qy, .int .i64 qa]] w fun e w' => e = .returned (.bool (decide (sepS K R ps px py pa K2 R2 qs qx qy qa = 0))) ∧ Below w.heap.size w w' := by
  have cV := fun w' h => rval_b K R A ca ps (by omega) w' h
  have cU := fun w' h => rval_b K2 R2 B_ cb qs (by omega) w' h
  have cS := fun w' h h' => rsep17_b K R K2 R2 A B_ ca cb ps qs px py pa qx qy qa hl hm w' h h'
  by_cases hv1 : valS K R ps = 0
  rotate_left
  · rw [sepS_val _ _ _ _ _ _ fun h => hv1 h.1]
    have b1 : (valS K R ps == 0) = false := by rw [beq_eq_false_iff_ne]; exact hv1
    rw [show decide ((536870911 : Int) = 0) = false from rfl]
    generalize valS K R ps = V at *
    clear hv1
    go_enter Tryz.func10, Tryz.ntmps10
    go_wp2_with (go_at_call 13; refine Calls.mono (gw_at (cV _ (Pts.to hp bBel))) ?_; rintro e w1 ⟨rfl, q, rfl⟩)
    go_ret
    exact ⟨rfl, bBel⟩
  rw [hv1] at cV
  by_cases hv2 : valS K2 R2 qs = 0
  rotate_left
  · rw [sepS_val _ _ _ _ _ _ fun h => hv2 h.2]
    have b1 : (valS K2 R2 qs == 0) = false := by rw [beq_eq_false_iff_ne]; exact hv2
    rw [show decide ((536870911 : Int) = 0) = false from rfl]
    generalize valS K2 R2 qs = V at *
    clear hv1 hv2
    go_enter Tryz.func10, Tryz.ntmps10
    go_wp2_with (first | (go_at_call 13; (with_reducible show Calls _ _ #[.agg #[.int .i64 K, .int .i64 R, .slice A _ _]] _ _); refine Calls.mono (gw_at (cV _ (Pts.to hp bBel))) ?_; rintro e w1 ⟨rfl, q, rfl⟩) | (go_at_call 13; (with_reducible show Calls _ _ #[.agg #[.int .i64 K2, .int .i64 R2, .slice B_ _ _]] _ _); refine Calls.mono (gw_at (cU _ (Pts.to hq bBel))) ?_; rintro e w1 ⟨rfl, q2, rfl⟩))
    go_ret
    exact ⟨rfl, bBel⟩
  rw [hv2] at cU
  clear hv1 hv2
  generalize sepS K R ps px py pa K2 R2 qs qx qy qa = S at *
  go_enter Tryz.func10, Tryz.ntmps10
  go_wp2_with (first | (go_at_call 13; (with_reducible show Calls _ _ #[.agg #[.int .i64 K, .int .i64 R, .slice A _ _]] _ _); refine Calls.mono (gw_at (cV _ (Pts.to hp bBel))) ?_; rintro e w1 ⟨rfl, q, rfl⟩) | (go_at_call 13; (with_reducible show Calls _ _ #[.agg #[.int .i64 K2, .int .i64 R2, .slice B_ _ _]] _ _); refine Calls.mono (gw_at (cU _ (Pts.to hq bBel))) ?_; rintro e w1 ⟨rfl, q2, rfl⟩) | (go_at_call 8; refine Calls.mono (gw_at (cS _ (Pts.to hp bBel) (Pts.to hq bBel))) ?_; rintro e w1 ⟨rfl, q3, rfl⟩))
  all_goals (go_ret; refine ⟨?_, bBel⟩; first | rfl | (simp; done) | (simp; omega) | (simp; rw [Bool.eq_iff_iff]; first | (simp; done) | (simp; omega)))

set_option maxRecDepth 100000 in
set_option maxHeartbeats 16000000 in
theorem rpt17_b (K R : Int) (A : Option Addr) (ca : Nat) (ps : List (Int × Int)) (px py pa x y : Int) (hl : ps.length ≤ 1000000) (w : World) (hp : Pts w A ps) : Calls Tryz.prog 12 #[.agg #[.int .i64 K, .int .i64 R, .slice A ps.length ca], .agg #[.int .i64 px, .int .i64 py, .int .i64 pa], .agg #[.int .i64 x, .int .i64 y]] w fun e w' => e = .returned (.int .i64 (ptS K R ps px py pa x y)) ∧ Below w.heap.size w w' := by
  have cV := fun w' h => rval_b K R A ca ps (by omega) w' h
  by_cases hv1 : valS K R ps = 0
  rotate_left
  · rw [pt_val _ _ _ _ _ hv1]
    have b1 : (valS K R ps != 0) = true := by rw [bne_iff_ne]; exact hv1
    generalize valS K R ps = V at *
    clear hv1
    go_enter Tryz.func12, Tryz.ntmps12
    go_wp2_with (go_at_call 13; refine Calls.mono (gw_at (cV _ (Pts.to hp bBel))) ?_; rintro e w1 ⟨rfl, q, rfl⟩)
    go_ret
    exact ⟨rfl, bBel⟩
  rw [hv1] at cV
  have cC := fun w' h => rcon_b K R A ca ps px py pa x y (by omega) w' h
  have cA := fun w' h => rsgm_b K R A ca ps px py pa (by omega) hv1 w' h
  obtain ⟨e1, h1, h8⟩ := core_hp (px := px) (py := py) (a := pa) hv1
  have hC : conS K R ps px py pa x y = conC K R (core K R ps px py pa) x y := by unfold conS; rw [decide_eq_true hv1, e1]; rfl
  rw [hC] at cC
  have hS : Hid (ptS K R ps px py pa x y = if conC K R (core K R ps px py pa) x y = true then 0 else max 0 (sub (gap (core K R ps px py pa) [(x, y)]) R)) := by
    show _ = _; unfold ptS; rw [if_pos hv1, e1]; rfl
  clear e1 hv1 hC
  generalize ptS K R ps px py pa x y = S at *
  generalize core K R ps px py pa = L at *
  generalize conC K R L x y = C at *
  cases C
  rotate_left
  · have hS3 : Hid (S = 0) := hS.out
    clear hS
    go_enter Tryz.func12, Tryz.ntmps12
    go_wp2_with (first | (go_at_call 13; refine Calls.mono (gw_at (cV _ (Pts.to hp bBel))) ?_; rintro e w1 ⟨rfl, q, rfl⟩) | (go_at_call 15; refine Calls.mono (gw_at (cC _ (Pts.to hp bBel))) ?_; rintro e w1 ⟨rfl, q2, rfl⟩))
    go_ret
    exact ⟨by rw [hS3.out]; rfl, bBel⟩
  obtain ⟨G, hG⟩ : ∃ G : Nat → Int, G = fun i => mn1 (fun j => sgd L [(x, y)] j 0) 536870911 i := ⟨_, rfl⟩
  have hG0 : G 0 = 536870911 := by rw [hG]; rfl
  have hG1 : Hid (∀ i, G (i + 1) = min (G i) (sdist (hp' L i).1 (hp' L i).2 (hp' L (i + 1)).1 (hp' L (i + 1)).2 x y x y)) := fun i => by
    rw [hG]
    show min _ (sgd L [(x, y)] i 0) = _
    unfold sgd; rw [hp_one, hp_one]
  have hGe : gap L [(x, y)] = G (nsg L) := by rw [hG]; unfold gap; rw [show nsg [(x, y)] = 1 from rfl, mn2_one]
  have hS3 : Hid (S = max 0 (sub (G (nsg L)) R)) := by show _ = _; rw [hS.out, hGe]; rfl
  have n1 : nsg L ≤ 1000000 := by unfold nsg; split <;> omega
  clear hS hG hGe
  go_enter Tryz.func12, Tryz.ntmps12
  go_upto_region 6 with (first | (go_at_call 13; refine Calls.mono (gw_at (cV _ (Pts.to hp bBel))) ?_; rintro e w1 ⟨rfl, q, rfl⟩) | (go_at_call 15; refine Calls.mono (gw_at (cC _ (Pts.to hp bBel))) ?_; rintro e w1 ⟨rfl, q2, rfl⟩) | (go_at_call 23; refine Calls.mono (cA _ (Pts.to hp bBel)) ?_; rintro e w1 ⟨⟨A1, c1, A2, c2, rfl, hP1, hP2⟩, q5, rfl⟩))
  refine wp_named ?_
  intro W hW
  have kA : blk W w.heap.size #[.int .i64 K, .int .i64 R, .slice A ps.length ca] 25 := by rw [hW]; exact bBkn
  have kV : blk W (w.heap.size + 2) #[.int .i64 x, .int .i64 y] 27 := by rw [hW]; exact bBkn
  have hbW : Below w.heap.size w W := by rw [hW]; exact bBel
  have hQ1 : Pts W A1 (stL L) := by rw [hW]; exact Pts.to hP1 bBel
  have hQ2 : Pts W A2 (enL L) := by rw [hW]; exact Pts.to hP2 bBel
  clear hW hP1 hP2 cV cC cA
  have hszW := hbW.size
  obtain ⟨b1, o1, rfl, hb1, hc1⟩ := core_st hQ1
  obtain ⟨b2, o2, rfl, hb2, hc2⟩ := core_en hQ2
  have kc1 : Hid _ := hc1
  have kc2 : Hid _ := hc2
  clear hQ1 hQ2 hc1 hc2
  generalize nsg L = n at *
  go_wp2_with fail
  go_loopw [9, 10] (fun s i wr => ∃ k : Nat, k ≤ n ∧ i = .int .i64 (k : Int) ∧ s = .int .i64 (G k) ∧ Below W.heap.size W wr)
    (fun _ i _ => (n - intOf i).toNat)
  case atStart => exact ⟨0, by omega, rfl, by rw [hG0], by first | exact Below.refl _ _ | exact bBel⟩
  case round =>
    obtain ⟨k, hk, rfl, rfl, hbR⟩ := hrel
    have hszR := hbR.size
    by_cases hlt : k < n
    · have i0 : (0 : Int) ≤ (k : Int) := by omega
      have i1 : (k : Int) < (n : Int) := by omega
      have hs1 : Hid (G (k + 1) = min _ _) := hG1.out k
      obtain ⟨d0, d1⟩ := kc1.out _ hbR k hlt
      obtain ⟨d2, d3⟩ := kc2.out _ hbR k hlt
      have ob1 := older_of_cell d0
      have ob2 := older_of_cell d2
      have kV1 := blk_to kV hbR
      have okV1 := blk_older kV1
      have ckV1_0 : _ = some _ := blk_cell kV1 0
      have ckV1_1 : _ = some _ := blk_cell kV1 1
      have fkV1_0 := blk_free kV1 0
      have fkV1_1 := blk_free kV1 1
      generalize (hp' L k).1 = x0 at *
      generalize (hp' L k).2 = y0 at *
      generalize (hp' L (k + 1)).1 = x1 at *
      generalize (hp' L (k + 1)).2 = y1 at *
      have cD := fun w' => rsdist_b x0 y0 x1 y1 x y x y w'
      generalize sdist x0 y0 x1 y1 x y x y = d at *
      generalize G k = g0 at *
      go_wp2_with fail
      refine wp_region_gw (by kernel_rfl) (by kernel_rfl) ?_
      repeat (go_big_quiet_step ((first | (go_at_call 24; with_reducible_and_instances exact gw_call (cD _)))))
      refine wpQuiet_nil ?_
      intro w1 hw1
      obtain ⟨q, rfl⟩ := hw1
      go_wp2_with fail
      exact ⟨⟨k + 1, by omega, by go_num, by rw [hs1.out], Below.trans hbR (Below.mono bBel hszR)⟩, by (try go_num); simp [intOf]; (try omega)⟩
    · obtain rfl : k = n := by omega
      have i1 : ¬ (k : Int) < (k : Int) := by omega
      have kA1 := blk_to kA hbR
      have hbWR : Below w.heap.size w wr := Below.trans hbW (hbR.mono hszW)
      have hszWR := hbWR.size
      have okA1 := blk_older kA1
      have ckA1_0 : _ = some _ := blk_cell kA1 0
      have ckA1_1 : _ = some _ := blk_cell kA1 1
      have ckA1_2 : _ = some _ := blk_cell kA1 2
      have fkA1_0 := blk_free kA1 0
      have fkA1_1 := blk_free kA1 1
      have fkA1_2 := blk_free kA1 2
      go_wp2_with (go_at_call 25; refine Calls.mono (gw_at (rsub_b _ _ _)) ?_; rintro e w1 ⟨rfl, q6, rfl⟩)
      go_ret
      exact ⟨by rw [hS3.out, Int.max_comm]; rfl, bBel⟩

end Go.Proofs.YtennbncbahpflaaGreat
