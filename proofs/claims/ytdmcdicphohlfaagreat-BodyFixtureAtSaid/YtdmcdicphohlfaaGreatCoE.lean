/- Package massdata, the landed code: Inverse, ofCircle, ofCapsule, ofPolygon, polygonGyration, OfShape.
Package massdata, the landed code: slices.ContainsFunc at mass data, hasNegativeMass, commonCenter, Combine.
Package massdata, the landed code: Combine, OfFixtures.
Package massdata, the landed code: OfFixtures. -/
import Derived.Test.YtdmcdicphohlfaaGreatCoA
import Derived.Test.YtdmcdicphohlfaaGreatCoD
import Derived.Shelf.SlicesQ.IndexFunc
import Derived.Shelf.SlGeneric

set_option linter.unusedVariables false
namespace Go.Proofs.YtdmcdicphohlfaaGreat
open Go.RowKit Fx

theorem yinv_b (M x y I k : Int) (f : Bool) (w : World) : Calls Tryz.prog 72 #[.agg #[.int .i64 M, .int .i64 x, .int .i64 y, .int .i64 I], .int .i64 k, .bool f] w fun e w' => e = .returned (.tuple #[.int .i64 (invM M k), .int .i64 (invI I k f)]) ∧ Below w.heap.size w w' := by
  by_cases hk : k = 3
  rotate_left
  · have e1 : invM M k = 0 := if_pos hk
    have e2 : invI I k f = 0 := if_pos hk
    rw [e1, e2]
    have b1 : (k != 3) = true := by rw [bne_iff_ne]; exact hk
    clear hk e1 e2
    go_enter Tryz.func72, Tryz.ntmps72
    go_wp2_with (first | (go_at_call 148; refine Calls.mono (gw_at (div_b _ _ _)) ?_; rintro e w1 ⟨rfl, q, rfl⟩))
    exact bodyPost_ret (v := .tuple #[.int .i64 0, .int .i64 0]) (by simp [results, Tryz.results72, go_sem]) rfl ⟨rfl, bBel⟩
  subst hk
  have e1 : invM M 3 = if 1 ≤ M then quo 65536 M else 65536 := if_neg (by decide)
  have e2 : invI I 3 f = if f = false ∧ 1 ≤ I then quo 65536 I else 0 := if_neg (by decide)
  rw [e1, e2]
  clear e1 e2
  by_cases hM : 1 ≤ M
  · rw [if_pos hM]
    by_cases hI : 1 ≤ I
    · cases f
      · rw [if_pos ⟨rfl, hI⟩]
        go_enter Tryz.func72, Tryz.ntmps72
        go_wp2_with (first | (go_at_call 148; refine Calls.mono (gw_at (div_b _ _ _)) ?_; rintro e w1 ⟨rfl, q, rfl⟩))
        exact bodyPost_ret (v := .tuple #[.int .i64 (quo 65536 M), .int .i64 (quo 65536 I)]) (by simp [results, Tryz.results72, go_sem]) rfl ⟨rfl, bBel⟩
      · rw [if_neg (fun h => by cases h.1)]
        go_enter Tryz.func72, Tryz.ntmps72
        go_wp2_with (first | (go_at_call 148; refine Calls.mono (gw_at (div_b _ _ _)) ?_; rintro e w1 ⟨rfl, q, rfl⟩))
        exact bodyPost_ret (v := .tuple #[.int .i64 (quo 65536 M), .int .i64 (0)]) (by simp [results, Tryz.results72, go_sem]) rfl ⟨rfl, bBel⟩
    · cases f
      · rw [if_neg (fun h => hI h.2)]
        go_enter Tryz.func72, Tryz.ntmps72
        go_wp2_with (first | (go_at_call 148; refine Calls.mono (gw_at (div_b _ _ _)) ?_; rintro e w1 ⟨rfl, q, rfl⟩))
        exact bodyPost_ret (v := .tuple #[.int .i64 (quo 65536 M), .int .i64 (0)]) (by simp [results, Tryz.results72, go_sem]) rfl ⟨rfl, bBel⟩
      · rw [if_neg (fun h => by cases h.1)]
        go_enter Tryz.func72, Tryz.ntmps72
        go_wp2_with (first | (go_at_call 148; refine Calls.mono (gw_at (div_b _ _ _)) ?_; rintro e w1 ⟨rfl, q, rfl⟩))
        exact bodyPost_ret (v := .tuple #[.int .i64 (quo 65536 M), .int .i64 (0)]) (by simp [results, Tryz.results72, go_sem]) rfl ⟨rfl, bBel⟩
  · rw [if_neg hM]
    by_cases hI : 1 ≤ I
    · cases f
      · rw [if_pos ⟨rfl, hI⟩]
        go_enter Tryz.func72, Tryz.ntmps72
        go_wp2_with (first | (go_at_call 148; refine Calls.mono (gw_at (div_b _ _ _)) ?_; rintro e w1 ⟨rfl, q, rfl⟩))
        exact bodyPost_ret (v := .tuple #[.int .i64 (65536), .int .i64 (quo 65536 I)]) (by simp [results, Tryz.results72, go_sem]) rfl ⟨rfl, bBel⟩
      · rw [if_neg (fun h => by cases h.1)]
        go_enter Tryz.func72, Tryz.ntmps72
        go_wp2_with (first | (go_at_call 148; refine Calls.mono (gw_at (div_b _ _ _)) ?_; rintro e w1 ⟨rfl, q, rfl⟩))
        exact bodyPost_ret (v := .tuple #[.int .i64 (65536), .int .i64 (0)]) (by simp [results, Tryz.results72, go_sem]) rfl ⟨rfl, bBel⟩
    · cases f
      · rw [if_neg (fun h => hI h.2)]
        go_enter Tryz.func72, Tryz.ntmps72
        go_wp2_with (first | (go_at_call 148; refine Calls.mono (gw_at (div_b _ _ _)) ?_; rintro e w1 ⟨rfl, q, rfl⟩))
        exact bodyPost_ret (v := .tuple #[.int .i64 (65536), .int .i64 (0)]) (by simp [results, Tryz.results72, go_sem]) rfl ⟨rfl, bBel⟩
      · rw [if_neg (fun h => by cases h.1)]
        go_enter Tryz.func72, Tryz.ntmps72
        go_wp2_with (first | (go_at_call 148; refine Calls.mono (gw_at (div_b _ _ _)) ?_; rintro e w1 ⟨rfl, q, rfl⟩))
        exact bodyPost_ret (v := .tuple #[.int .i64 (65536), .int .i64 (0)]) (by simp [results, Tryz.results72, go_sem]) rfl ⟨rfl, bBel⟩

theorem ycir_b (K R : Int) (A : Option Addr) (cap : Nat) (ps : List (Int × Int)) (D : Int) (h1l : 0 < ps.length) (hl : ps.length ≤ 4611686018427387904) (w : World) (hp : Pts w A ps) : Calls Tryz.prog 189 #[.agg #[.int .i64 K, .int .i64 R, .slice A ps.length cap], .int .i64 D] w fun e w' => e = .returned (.agg #[.int .i64 (mul (disk R) D), .int .i64 (hp' ps 0).1, .int .i64 (hp' ps 0).2, .int .i64 (mul (mul (disk R) D) (rdiv (mul R R) 2))]) ∧ Below w.heap.size w w' := by
  unfold disk
  rw [hp_get h1l]
  obtain ⟨b1, off1, hA1, hc1⟩ := pts_open0 hp h1l
  subst hA1
  obtain ⟨d0, d1⟩ := hc1 0 h1l
  simp only [Nat.zero_mul, Nat.add_zero] at d0 d1
  have o1 := older_of_cell d0
  have j0 : (0 : Int) < (ps.length : Int) := by omega
  clear hc1
  obtain ⟨x0, hx0⟩ : ∃ x, Hid (ps[0].1 = x) := ⟨ps[0].1, rfl⟩
  obtain ⟨y0, hy0⟩ : ∃ y, Hid (ps[0].2 = y) := ⟨ps[0].2, rfl⟩
  rw [hx0.out, hy0.out]
  rw [hx0.out] at d0
  rw [hy0.out] at d1
  clear hx0 hy0
  go_enter Tryz.func189, Tryz.ntmps189
  go_wp2_with (first | (go_at_call 151; refine Calls.mono (gw_at (mul_b _ _ _)) ?_; rintro e w1 ⟨rfl, q, rfl⟩) | (go_at_call 206; refine Calls.mono (gw_at (rd_b _ _ _)) ?_; rintro e w1 ⟨rfl, q, rfl⟩))
  refine wp_region_gw_tail 10 (by kernel_rfl) (by kernel_rfl) ?_
  simp only [List.take_succ_cons, List.take_zero, List.drop_succ_cons, List.drop_zero]
  repeat (go_big_quiet_step ((first | (go_at_call 151; exact gw_call (mul_b _ _ _)) | (go_at_call 206; exact gw_call (rd_b _ _ _)))))
  refine wpQuiet_nil ?_
  intro w1 hw1
  obtain ⟨q, rfl⟩ := hw1
  go_wp2_with fail
  refine post_named ?_
  intro Z hZ
  have kZ : blk Z (w.heap.size + 1) #[.int .i64 (mul (mul 205888 (mul R R)) D), .int .i64 x0, .int .i64 y0, .int .i64 (mul (mul (mul 205888 (mul R R)) D) (rdiv (mul R R) 2))] 49 := by rw [hZ]; first | exact bBkn | exact (by apply blk_of; (repeat (first  | with_reducible apply blk_drew | with_reducible apply blk_gw | with_reducible apply blk_alloc | with_reducible apply blk_set | ((with_reducible apply blk_other); focus omega))); (first | rfl | simp))
  have hbZ : Below w.heap.size w Z := by rw [hZ]; exact bBel
  clear hZ
  have okZ := blk_older kZ
  have ckZ_0 : _ = some _ := blk_cell kZ 0
  have ckZ_1 : _ = some _ := blk_cell kZ 1
  have ckZ_2 : _ = some _ := blk_cell kZ 2
  have ckZ_3 : _ = some _ := blk_cell kZ 3
  have fkZ_0 := blk_free kZ 0
  have fkZ_1 := blk_free kZ 1
  have fkZ_2 := blk_free kZ 2
  have fkZ_3 := blk_free kZ 3
  exact bodyPost_ret (v := .agg #[.int .i64 (mul (mul 205888 (mul R R)) D), .int .i64 x0, .int .i64 y0, .int .i64 (mul (mul (mul 205888 (mul R R)) D) (rdiv (mul R R) 2))]) (by simp [results, Tryz.results189, go_sem, ckZ_0, ckZ_1, ckZ_2, ckZ_3]) rfl ⟨rfl, hbZ⟩

set_option maxHeartbeats 4000000 in
theorem ycap_b (K R : Int) (A : Option Addr) (cap : Nat) (ps : List (Int × Int)) (D : Int) (h2l : 1 < ps.length) (hl : ps.length ≤ 4611686018427387904) (w : World) (hp : Pts w A ps) : Calls Tryz.prog 190 #[.agg #[.int .i64 K, .int .i64 R, .slice A ps.length cap], .int .i64 D] w fun e w' => e = .returned (.agg #[.int .i64 (capm R ps D), .int .i64 (lerp (hp' ps 0).1 (hp' ps 1).1 32768), .int .i64 (lerp (hp' ps 0).2 (hp' ps 1).2 32768), .int .i64 (mul (capm R ps D) (add (rdiv (mul R R) 2) (rdiv (mul (capl ps) (capl ps)) 12)))]) ∧ Below w.heap.size w w' := by
  have h1l : 0 < ps.length := by omega
  unfold capm capl disk
  rw [hp_get h1l, hp_get h2l]
  obtain ⟨b1, off1, hA1, hc1⟩ := pts_open0 hp h1l
  subst hA1
  have hcB : ∀ w', Below w.heap.size w w' → w'.cell? ⟨b1, off1, none⟩ = some (.int .i64 ps[0].1) ∧ w'.cell? ⟨b1, off1 + 1, none⟩ = some (.int .i64 ps[0].2) ∧ w'.cell? ⟨b1, off1 + 1 * 2, none⟩ = some (.int .i64 ps[1].1) ∧ w'.cell? ⟨b1, off1 + 1 * 2 + 1, none⟩ = some (.int .i64 ps[1].2) := fun w' hb => by
    obtain ⟨b', off', e, hc⟩ := pts_open0 (Pts.to hp hb) h1l
    cases e
    obtain ⟨e0, e1⟩ := hc 0 h1l
    obtain ⟨e2, e3⟩ := hc 1 h2l
    rw [Nat.zero_mul, Nat.add_zero] at e0 e1
    exact ⟨e0, e1, e2, e3⟩
  have j0 : (0 : Int) < (ps.length : Int) := by omega
  have j1 : (1 : Int) < (ps.length : Int) := by omega
  clear hc1
  obtain ⟨x0, hx0⟩ : ∃ x, Hid (ps[0].1 = x) := ⟨ps[0].1, rfl⟩
  obtain ⟨y0, hy0⟩ : ∃ y, Hid (ps[0].2 = y) := ⟨ps[0].2, rfl⟩
  obtain ⟨x1, hx1⟩ : ∃ x, Hid (ps[1].1 = x) := ⟨ps[1].1, rfl⟩
  obtain ⟨y1, hy1⟩ : ∃ y, Hid (ps[1].2 = y) := ⟨ps[1].2, rfl⟩
  rw [hx0.out, hy0.out, hx1.out, hy1.out] at hcB
  rw [hx0.out, hy0.out, hx1.out, hy1.out]
  clear hx0 hy0 hx1 hy1
  go_enter Tryz.func190, Tryz.ntmps190
  go_upto_region 1 with fail
  refine wp_named ?_
  intro W hW
  have kS : blk W w.heap.size #[.int .i64 K, .int .i64 R, .slice (some ⟨b1, off1, none⟩) ps.length cap] 33 := by rw [hW]; exact bBkn
  have kR : blk W (w.heap.size + 1) #[.int .i64 0, .int .i64 0, .int .i64 0, .int .i64 0] 49 := by rw [hW]; exact bBkn
  have hbW : Below w.heap.size w W := by rw [hW]; exact bBel
  have hzW : w.heap.size + 1 < W.heap.size := by rw [hW]; simp
  clear hW
  have hszW := hbW.size
  have hcellB : ∀ w', Below W.heap.size W w' → Below W.heap.size W w' ∧ w'.cell? ⟨w.heap.size, 2, none⟩ = some (.slice (some ⟨b1, off1, none⟩) ps.length cap) ∧ w'.cell? ⟨b1, off1, none⟩ = some (.int .i64 x0) ∧ w'.cell? ⟨b1, off1 + 1, none⟩ = some (.int .i64 y0) ∧ w'.cell? ⟨b1, off1 + 1 * 2, none⟩ = some (.int .i64 x1) ∧ w'.cell? ⟨b1, off1 + 1 * 2 + 1, none⟩ = some (.int .i64 y1) := fun w' h => ⟨h, blk_cell (blk_to kS h) 2, hcB w' (Below.trans hbW (h.mono hszW))⟩
  obtain ⟨-, g2, d0, d1, d2, d3⟩ := hcellB _ (Below.refl _ W)
  have okS := blk_older kS
  have ckS_0 : _ = some _ := blk_cell kS 0
  have ckS_1 : _ = some _ := blk_cell kS 1
  have ckS_2 : _ = some _ := blk_cell kS 2
  have fkS_0 := blk_free kS 0
  have fkS_1 := blk_free kS 1
  have fkS_2 := blk_free kS 2
  have okR := blk_older kR
  have ckR_0 : _ = some _ := blk_cell kR 0
  have ckR_1 : _ = some _ := blk_cell kR 1
  have ckR_2 : _ = some _ := blk_cell kR 2
  have ckR_3 : _ = some _ := blk_cell kR 3
  have fkR_0 := blk_free kR 0
  have fkR_1 := blk_free kR 1
  have fkR_2 := blk_free kR 2
  have fkR_3 := blk_free kR 3
  go_cut [5, 6] (fun fr tp wx => ∃ E F : Nat, fr = .pointer (some ⟨E, 0, none⟩) ∧ tp = .pointer (some ⟨F, 0, none⟩) ∧ W.heap.size ≤ E ∧ W.heap.size ≤ F ∧ blk wx E #[.int .i64 x0, .int .i64 y0] 24 ∧ blk wx F #[.int .i64 x1, .int .i64 y1] 24 ∧ Below W.heap.size W wx)
  case first =>
    go_region_held3 (fun w' => Below W.heap.size W w' ∧ w'.cell? ⟨w.heap.size, 2, none⟩ = some (.slice (some ⟨b1, off1, none⟩) ps.length cap) ∧ w'.cell? ⟨b1, off1, none⟩ = some (.int .i64 x0) ∧ w'.cell? ⟨b1, off1 + 1, none⟩ = some (.int .i64 y0) ∧ w'.cell? ⟨b1, off1 + 1 * 2, none⟩ = some (.int .i64 x1) ∧ w'.cell? ⟨b1, off1 + 1 * 2 + 1, none⟩ = some (.int .i64 y1)) (first | (refine hcellB _ ?_; exact bBel)) (fail)
    all_goals
      go_wp2_with fail
    all_goals
      go_meet
      exact ⟨_, _, rfl, rfl, by omega, by omega, bBkn, bBkn, bBel⟩
  case rest =>
  obtain ⟨E, F, rfl, rfl, nE, nF, kE, kF, hbX⟩ := hcut
  generalize wc = X at *
  have kS2 := blk_to kS hbX
  have kR2 := blk_to kR hbX
  have hbX2 : Below w.heap.size w X := Below.trans hbW (hbX.mono hszW)
  clear g2 d0 d1 d2 d3 hcellB hcB kS kR okS okR ckS_0 ckS_1 ckS_2 fkS_0 fkS_1 fkS_2 ckR_0 ckR_1 ckR_2 ckR_3 fkR_0 fkR_1 fkR_2 fkR_3 hbX hbW
  have hszX := hbX2.size
  have okS2 := blk_older kS2
  have ckS2_0 : _ = some _ := blk_cell kS2 0
  have ckS2_1 : _ = some _ := blk_cell kS2 1
  have ckS2_2 : _ = some _ := blk_cell kS2 2
  have fkS2_0 := blk_free kS2 0
  have fkS2_1 := blk_free kS2 1
  have fkS2_2 := blk_free kS2 2
  have okR2 := blk_older kR2
  have ckR2_0 : _ = some _ := blk_cell kR2 0
  have ckR2_1 : _ = some _ := blk_cell kR2 1
  have ckR2_2 : _ = some _ := blk_cell kR2 2
  have ckR2_3 : _ = some _ := blk_cell kR2 3
  have fkR2_0 := blk_free kR2 0
  have fkR2_1 := blk_free kR2 1
  have fkR2_2 := blk_free kR2 2
  have fkR2_3 := blk_free kR2 3
  have okE := blk_older kE
  have ckE_0 : _ = some _ := blk_cell kE 0
  have ckE_1 : _ = some _ := blk_cell kE 1
  have fkE_0 := blk_free kE 0
  have fkE_1 := blk_free kE 1
  have okF := blk_older kF
  have ckF_0 : _ = some _ := blk_cell kF 0
  have ckF_1 : _ = some _ := blk_cell kF 1
  have fkF_0 := blk_free kF 0
  have fkF_1 := blk_free kF 1
  go_wp2_with (first | (go_at_call 97; refine Calls.mono (gw_at (vsub_b _ _ _ _ _)) ?_; rintro e w1 ⟨rfl, q, rfl⟩) | (go_at_call 96; refine Calls.mono (gw_at (vlen_b _ _ _)) ?_; rintro e w1 ⟨rfl, q, rfl⟩) | (go_at_call 151; refine Calls.mono (gw_at (mul_b _ _ _)) ?_; rintro e w1 ⟨rfl, q, rfl⟩) | (go_at_call 150; refine Calls.mono (gw_at (add_b _ _ _)) ?_; rintro e w1 ⟨rfl, q, rfl⟩) | (go_at_call 206; refine Calls.mono (gw_at (rd_b _ _ _)) ?_; rintro e w1 ⟨rfl, q, rfl⟩) | (go_at_call 238; refine Calls.mono (gw_at (vlerp_b _ _ _ _ _ _)) ?_; rintro e w1 ⟨rfl, q, rfl⟩))
  refine wp_region_gw (by kernel_rfl) (by kernel_rfl) ?_
  repeat (go_big_quiet_step ((first | (go_at_call 97; exact gw_call (vsub_b _ _ _ _ _)) | (go_at_call 96; exact gw_call (vlen_b _ _ _)) | (go_at_call 151; exact gw_call (mul_b _ _ _)) | (go_at_call 150; exact gw_call (add_b _ _ _)) | (go_at_call 206; exact gw_call (rd_b _ _ _)) | (go_at_call 238; exact gw_call (vlerp_b _ _ _ _ _ _)))))
  refine wpQuiet_nil ?_
  intro w1 hw1
  obtain ⟨q, rfl⟩ := hw1
  go_wp2_with (first | (go_at_call 97; refine Calls.mono (gw_at (vsub_b _ _ _ _ _)) ?_; rintro e w1 ⟨rfl, q, rfl⟩) | (go_at_call 96; refine Calls.mono (gw_at (vlen_b _ _ _)) ?_; rintro e w1 ⟨rfl, q, rfl⟩) | (go_at_call 151; refine Calls.mono (gw_at (mul_b _ _ _)) ?_; rintro e w1 ⟨rfl, q, rfl⟩) | (go_at_call 150; refine Calls.mono (gw_at (add_b _ _ _)) ?_; rintro e w1 ⟨rfl, q, rfl⟩) | (go_at_call 206; refine Calls.mono (gw_at (rd_b _ _ _)) ?_; rintro e w1 ⟨rfl, q, rfl⟩) | (go_at_call 238; refine Calls.mono (gw_at (vlerp_b _ _ _ _ _ _)) ?_; rintro e w1 ⟨rfl, q, rfl⟩))
  refine post_named ?_
  intro Z hZ
  have kZ : blk Z (w.heap.size + 1) #[.int .i64 (mul (add (mul 205888 (mul R R)) (mul (add R R) (vlen (sub x1 x0) (sub y1 y0)))) D), .int .i64 (lerp x0 x1 32768), .int .i64 (lerp y0 y1 32768), .int .i64 (mul (mul (add (mul 205888 (mul R R)) (mul (add R R) (vlen (sub x1 x0) (sub y1 y0)))) D) (add (rdiv (mul R R) 2) (rdiv (mul (vlen (sub x1 x0) (sub y1 y0)) (vlen (sub x1 x0) (sub y1 y0))) 12)))] 49 := by rw [hZ]; exact (by apply blk_of; (repeat (first | with_reducible exact kR2 | with_reducible apply blk_drew | with_reducible apply blk_gw | with_reducible apply blk_alloc | with_reducible apply blk_set | ((with_reducible apply blk_other); focus omega))); (first | rfl | simp))
  have hbZ : Below w.heap.size w Z := by rw [hZ]; exact bBel
  clear hZ
  have okZ := blk_older kZ
  have ckZ_0 : _ = some _ := blk_cell kZ 0
  have ckZ_1 : _ = some _ := blk_cell kZ 1
  have ckZ_2 : _ = some _ := blk_cell kZ 2
  have ckZ_3 : _ = some _ := blk_cell kZ 3
  have fkZ_0 := blk_free kZ 0
  have fkZ_1 := blk_free kZ 1
  have fkZ_2 := blk_free kZ 2
  have fkZ_3 := blk_free kZ 3
  exact bodyPost_ret (v := .agg #[.int .i64 (mul (add (mul 205888 (mul R R)) (mul (add R R) (vlen (sub x1 x0) (sub y1 y0)))) D), .int .i64 (lerp x0 x1 32768), .int .i64 (lerp y0 y1 32768), .int .i64 (mul (mul (add (mul 205888 (mul R R)) (mul (add R R) (vlen (sub x1 x0) (sub y1 y0)))) D) (add (rdiv (mul R R) 2) (rdiv (mul (vlen (sub x1 x0) (sub y1 y0)) (vlen (sub x1 x0) (sub y1 y0))) 12)))]) (by simp [results, Tryz.results190, go_sem, ckZ_0, ckZ_1, ckZ_2, ckZ_3]) rfl ⟨rfl, hbZ⟩

set_option maxHeartbeats 8000000 in
theorem ygyr_b (A : Option Addr) (cap : Nat) (ps : List (Int × Int)) (cx cy : Int) (hl : ps.length ≤ 8) (w : World) (ha : Pts w A ps) : Calls Tryz.prog 240 #[.slice A ps.length cap, .agg #[.int .i64 cx, .int .i64 cy]] w fun e w' => e = .returned (.int .i64 (rdiv (rdiv (sumA ps cx cy ps.length) (sumB ps cx cy ps.length)) 6)) ∧ Below w.heap.size w w' := by
  have hsA : ∀ k, k < ps.length → Hid (sumA ps cx cy (k + 1) = sumA ps cx cy k + kkI ps cx cy k * ddI ps cx cy k) := fun k _ => rfl
  have hsB : ∀ k, k < ps.length → Hid (sumB ps cx cy (k + 1) = sumB ps cx cy k + kkI ps cx cy k) := fun k _ => rfl
  have hin := sums_in ps cx cy
  have hA0 : sumA ps cx cy 0 = 0 := rfl
  have hB0 : sumB ps cx cy 0 = 0 := rfl
  go_enter Tryz.func240, Tryz.ntmps240
  go_wp2_with fail
  refine wp_named ?_
  intro W hW
  have kC : blk W w.heap.size #[.int .i64 cx, .int .i64 cy] 24 := by rw [hW]; exact bBkn
  have hbW : Below w.heap.size w W := by rw [hW]; exact bBel
  clear hW
  have hszW := hbW.size
  have hP : Pts W A ps := Pts.to ha hbW
  go_loopw [5, 6, 14] (fun b a i wr => ∃ k : Nat, k ≤ ps.length ∧ i = .int .i64 (k : Int) ∧ b = .int .i64 (sumB ps cx cy k) ∧ a = .int .i64 (sumA ps cx cy k) ∧ ∃ p, wr = gw W p)
    (fun _ _ i _ => (ps.length - intOf i).toNat)
  case atStart => exact ⟨0, by omega, rfl, by rw [hB0], by rw [hA0], ⟨⟨W.drawn, #[]⟩, (gw_zero W).symm⟩⟩
  case round =>
    obtain ⟨k, hk, rfl, rfl, rfl, p, rfl⟩ := hrel
    by_cases hlt : k < ps.length
    · have j0 : (0 : Int) ≤ (k : Int) := by omega
      have j1 : (k : Int) < (ps.length : Int) := by omega
      obtain ⟨b2, off2, hA2, hc2⟩ := pts_open hP (by omega)
      subst hA2
      have hmod := Nat.mod_lt (k + 1) (show 0 < ps.length by omega)
      have hm : ((k : Int) + 1).tmod (ps.length : Int) = (((k + 1) % ps.length : Nat) : Int) := next_mod
      have hnz : ((ps.length : Int) == 0) = false := by rw [beq_eq_false_iff_ne]; omega
      have hkk : Hid (kkI ps cx cy k = cross (sub (hp' ps k).1 cx) (sub (hp' ps k).2 cy) (sub (hp' ps (k + 1)).1 cx) (sub (hp' ps (k + 1)).2 cy)) := rfl
      have hdd : Hid (ddI ps cx cy k = dot (sub (hp' ps k).1 cx) (sub (hp' ps k).2 cy) (sub (hp' ps k).1 cx) (sub (hp' ps k).2 cy) + dot (sub (hp' ps k).1 cx) (sub (hp' ps k).2 cy) (sub (hp' ps (k + 1)).1 cx) (sub (hp' ps (k + 1)).2 cy) + dot (sub (hp' ps (k + 1)).1 cx) (sub (hp' ps (k + 1)).2 cy) (sub (hp' ps (k + 1)).1 cx) (sub (hp' ps (k + 1)).2 cy)) := rfl
      have q1 := hin k
      have q2 := hin (k + 1)
      have q3 := kk_in ps cx cy k
      have q4 := dd_in ps cx cy k
      have q5 := mul_between q3.1 q3.2 q4.1 q4.2
      have hA1 := hsA k hlt
      have hB1 := hsB k hlt
      rw [← hp_mod ps (k + 1)] at hkk hdd
      generalize (k + 1) % ps.length = nx at *
      rw [hp_get hlt, hp_get hmod] at hkk hdd
      have x0 : (0 : Int) ≤ (nx : Int) := by omega
      have x1 : (nx : Int) < (ps.length : Int) := by omega
      obtain ⟨d0, d1⟩ := hc2 p k hlt
      have ob := older_of_cell d0
      have hcB : ∀ w', Below W.heap.size W w' → w'.cell? ⟨b2, off2 + nx * 2, none⟩ = some (.int .i64 ps[nx].1) ∧ w'.cell? ⟨b2, off2 + nx * 2 + 1, none⟩ = some (.int .i64 ps[nx].2) := fun w' hb => by
        obtain ⟨r, rfl⟩ := gw_of_below hb
        exact hc2 r nx hmod
      clear hc2 hsA hsB hA0 hB0 hin
      generalize ps[k].1 = xk at *
      generalize ps[k].2 = yk at *
      generalize ps[nx].1 = xn at *
      generalize ps[nx].2 = yn at *
      go_upto_region 5 with fail
      refine wp_named ?_
      intro V hV
      have kF : blk V (W.heap.size + p.os.size) #[.int .i64 xk, .int .i64 yk] 24 := by rw [hV]; first | exact bBkn | exact (by apply blk_of; (repeat (first  | with_reducible apply blk_drew | with_reducible apply blk_gw | with_reducible apply blk_alloc | with_reducible apply blk_set | ((with_reducible apply blk_other); focus omega))); (first | rfl | simp))
      have kC2 : blk V w.heap.size #[.int .i64 cx, .int .i64 cy] 24 := by rw [hV]; exact (by apply blk_of; (repeat (first | with_reducible exact kC | with_reducible apply blk_drew | with_reducible apply blk_gw | with_reducible apply blk_alloc | with_reducible apply blk_set | ((with_reducible apply blk_other); focus omega))); (first | rfl | simp))
      have hbV : Below W.heap.size W V := by rw [hV]; exact bBel
      clear hV
      obtain ⟨f0, f1⟩ := hcB V hbV
      have of := older_of_cell f0
      generalize W.heap.size + p.os.size = F at *
      have okF := blk_older kF
      have ckF_0 : _ = some _ := blk_cell kF 0
      have ckF_1 : _ = some _ := blk_cell kF 1
      have fkF_0 := blk_free kF 0
      have fkF_1 := blk_free kF 1
      have okC2 := blk_older kC2
      have ckC2_0 : _ = some _ := blk_cell kC2 0
      have ckC2_1 : _ = some _ := blk_cell kC2 1
      have fkC2_0 := blk_free kC2 0
      have fkC2_1 := blk_free kC2 1
      clear hcB
      apply wp_box2 15 58 13 9 14 10 #[.int .i64 0, .int .i64 0] #[.int .i64 0, .int .i64 0] 24 24 (by kernel_rfl) (by rfl) (by kernel_rfl) (by rfl) (by intro o ho a w; simp at ho; subst ho; simp [go_sem, ptr]) (by intro o ho a w; simp at ho; subst ho; simp [go_sem, ptr])
      · intro p0
        simp only [heads, ghost, List.take_succ_cons, List.take_zero, List.map_cons, List.map_nil]
        repeat (go_big_quiet_step ((first | (go_at_call 97; exact gw_call (vsub_b _ _ _ _ _)) | (go_at_call 85; exact gw_call (cross_b _ _ _ _ _)) | (go_at_call 195; exact gw_call (dot_b _ _ _ _ _)) | (go_at_call 206; exact gw_call (rd_b _ _ _)))))
        exact wpQuiet_nil rfl
      · intro R bB1 bB2 p0 nB1 nB2 gB1 gB2 neB01 neB01' kB1 kB2 hK
        simp only [List.drop_succ_cons, List.drop_zero, Act.put, ptr, List.setIfInBounds_toArray, List.set_cons_succ, List.set_cons_zero]
        have cB1_0 : _ = some _ := blk_cell kB1 0
        have cB1_1 : _ = some _ := blk_cell kB1 1
        have cB2_0 : _ = some _ := blk_cell kB2 0
        have cB2_1 : _ = some _ := blk_cell kB2 1
        have fB1_0 := blk_free kB1 0
        have fB1_1 := blk_free kB1 1
        have fB2_0 := blk_free kB2 0
        have fB2_1 := blk_free kB2 1
        have oB1 := blk_older kB1
        have oB2 := blk_older kB2
        go_wp2_with fail
        refine box_end2 gB1 gB2 hK ?_ ?_ ?_
        · exact bBel
        · exact (by repeat' (first | with_reducible assumption | with_reducible apply blk_gw | with_reducible apply blk_alloc | with_reducible apply blk_set | ((with_reducible apply blk_other); focus (first | omega | assumption))))
        · exact (by repeat' (first | with_reducible assumption | with_reducible apply blk_gw | with_reducible apply blk_alloc | with_reducible apply blk_set | ((with_reducible apply blk_other); focus (first | omega | assumption))))
      intro bB1 bB2 p0 nB1 nB2 neB01 neB01' kB1 kB2
      have cB1_0 : _ = some _ := blk_cell kB1 0
      have cB1_1 : _ = some _ := blk_cell kB1 1
      have cB2_0 : _ = some _ := blk_cell kB2 0
      have cB2_1 : _ = some _ := blk_cell kB2 1
      have fB1_0 := blk_free kB1 0
      have fB1_1 := blk_free kB1 1
      have fB2_0 := blk_free kB2 0
      have fB2_1 := blk_free kB2 1
      have oB1 := blk_older kB1
      have oB2 := blk_older kB2
      have cK : ∀ w', Calls Tryz.prog 85 #[.agg #[.int .i64 (sub xk cx), .int .i64 (sub yk cy)], .agg #[.int .i64 (sub xn cx), .int .i64 (sub yn cy)]] w' fun e w'' => e = .returned (.int .i64 (kkI ps cx cy k)) ∧ Below w'.heap.size w' w'' := fun w' => by rw [hkk.out]; exact cross_b _ _ _ _ _
      have cD1 := fun w' => dot_b (sub xk cx) (sub yk cy) (sub xk cx) (sub yk cy) w'
      have cD2 := fun w' => dot_b (sub xk cx) (sub yk cy) (sub xn cx) (sub yn cy) w'
      have cD3 := fun w' => dot_b (sub xn cx) (sub yn cy) (sub xn cx) (sub yn cy) w'
      have b1 := dot_in (sub xk cx) (sub yk cy) (sub xk cx) (sub yk cy)
      have b2 := dot_in (sub xk cx) (sub yk cy) (sub xn cx) (sub yn cy)
      have b3 := dot_in (sub xn cx) (sub yn cy) (sub xn cx) (sub yn cy)
      have hd := hdd.out
      clear hkk hdd
      generalize dot (sub xk cx) (sub yk cy) (sub xk cx) (sub yk cy) = D1 at *
      generalize dot (sub xk cx) (sub yk cy) (sub xn cx) (sub yn cy) = D2 at *
      generalize dot (sub xn cx) (sub yn cy) (sub xn cx) (sub yn cy) = D3 at *
      generalize kkI ps cx cy k = KK at *
      generalize ddI ps cx cy k = DD at *
      subst hd
      have g1 : wrap64 (D1 + D2) = D1 + D2 := by unfold wrap64; omega
      have g2 : wrap64 (D1 + D2 + D3) = D1 + D2 + D3 := by unfold wrap64; omega
      have hA2 := hA1.out
      have hB2 := hB1.out
      have g3 : wrap64 (KK * (D1 + D2 + D3)) = KK * (D1 + D2 + D3) := by unfold wrap64; omega
      have g4 : wrap64 (sumA ps cx cy k + KK * (D1 + D2 + D3)) = sumA ps cx cy k + KK * (D1 + D2 + D3) := by rw [← hA2]; unfold wrap64; omega
      have g5 : wrap64 (sumB ps cx cy k + KK) = sumB ps cx cy k + KK := by rw [← hB2]; unfold wrap64; omega
      clear hA2 hB2 q1 q2 q3 q4 q5
      generalize sumA ps cx cy k = SA at *
      generalize sumB ps cx cy k = SB at *
      go_wp2_with (go_at_call 85; refine Calls.mono (gw_at (cK _)) ?_; rintro e w1 ⟨rfl, q, rfl⟩)
      refine wp_region_gw (by kernel_rfl) (by kernel_rfl) ?_
      repeat (go_big_quiet_step (first | (go_at_call 195; (with_reducible show Calls _ _ #[.agg #[.int .i64 (sub xk cx), _], .agg #[.int .i64 (sub xk cx), _]] _ _); exact gw_call (cD1 _)) | (go_at_call 195; (with_reducible show Calls _ _ #[.agg #[.int .i64 (sub xk cx), _], .agg #[.int .i64 (sub xn cx), _]] _ _); exact gw_call (cD2 _)) | (go_at_call 195; (with_reducible show Calls _ _ #[.agg #[.int .i64 (sub xn cx), _], .agg #[.int .i64 (sub xn cx), _]] _ _); exact gw_call (cD3 _))))
      refine wpQuiet_nil ?_
      intro w1 hw1
      obtain ⟨q9, rfl⟩ := hw1
      go_wp2_with fail
      exact ⟨⟨k + 1, by omega, by go_num, by rw [hB1.out, g5], by rw [hA1.out, g4], gw_of_below (Below.trans hbV (Below.mono bBel hbV.size))⟩, by (try go_num); simp [intOf]; (try omega)⟩
    · obtain rfl : k = ps.length := by omega
      have j1 : ¬ (ps.length : Int) < (ps.length : Int) := by omega
      clear hsA hsB hA0 hB0 hin
      go_wp2_with (first | (go_at_call 97; refine Calls.mono (gw_at (vsub_b _ _ _ _ _)) ?_; rintro e w1 ⟨rfl, q, rfl⟩) | (go_at_call 85; refine Calls.mono (gw_at (cross_b _ _ _ _ _)) ?_; rintro e w1 ⟨rfl, q, rfl⟩) | (go_at_call 195; refine Calls.mono (gw_at (dot_b _ _ _ _ _)) ?_; rintro e w1 ⟨rfl, q, rfl⟩) | (go_at_call 206; refine Calls.mono (gw_at (rd_b _ _ _)) ?_; rintro e w1 ⟨rfl, q, rfl⟩))
      go_ret
      exact ⟨rfl, bBel⟩

theorem pin_eq (ps : List (Int × Int)) (cx cy m : Int) : pin ps cx cy m = mul m (rdiv (rdiv (sumA ps cx cy ps.length) (sumB ps cx cy ps.length)) 6) := by
  unfold pin
  split
  · rename_i h
    have e : rdiv (sumA ps cx cy ps.length) (sumB ps cx cy ps.length) = 0 := by
      exact rdiv_out (by omega)
    rw [e, show rdiv 0 6 = 0 from by decide +kernel]
    unfold mul; rw [sat_zero, Int.mul_zero]; decide +kernel
  · rfl

set_option maxHeartbeats 4000000 in
theorem ypol_b (K R : Int) (A : Option Addr) (cap : Nat) (ps : List (Int × Int)) (D : Int) (h8 : ps.length ≤ 8) (w : World) (hp : Pts w A ps) (hk : ps.length ≤ cap) : Calls Tryz.prog 191 #[.agg #[.int .i64 K, .int .i64 R, .slice A ps.length cap], .int .i64 D] w fun e w' => e = .returned (.agg #[.int .i64 (mul (areaP ps) D), .int .i64 (cenP ps).1, .int .i64 (cenP ps).2, .int .i64 (pin ps (cenP ps).1 (cenP ps).2 (mul (areaP ps) D))]) ∧ Below w.heap.size w w' := by
  rw [pin_eq]
  have cA := fun w' h => xarea_b A cap ps (by omega) w' h hk
  have cC := fun w' h => xcen_b A cap ps (by omega) w' h hk
  have cG := fun w' h => ygyr_b A cap ps (cenP ps).1 (cenP ps).2 h8 w' h
  generalize (cenP ps).1 = cx at *
  generalize (cenP ps).2 = cy at *
  generalize areaP ps = AR at *
  generalize rdiv (rdiv (sumA ps cx cy ps.length) (sumB ps cx cy ps.length)) 6 = GY at *
  go_enter Tryz.func191, Tryz.ntmps191
  go_upto_region 1 with fail
  refine wp_named ?_
  intro W hW
  have kS : blk W w.heap.size #[.int .i64 K, .int .i64 R, .slice A ps.length cap] 33 := by rw [hW]; exact bBkn
  have kR : blk W (w.heap.size + 1) #[.int .i64 0, .int .i64 0, .int .i64 0, .int .i64 0] 49 := by rw [hW]; exact bBkn
  have hbW : Below w.heap.size w W := by rw [hW]; exact bBel
  clear hW
  have hszW := hbW.size
  have hP : Pts W A ps := Pts.to hp hbW
  have okS := blk_older kS
  have ckS_0 : _ = some _ := blk_cell kS 0
  have ckS_1 : _ = some _ := blk_cell kS 1
  have ckS_2 : _ = some _ := blk_cell kS 2
  have fkS_0 := blk_free kS 0
  have fkS_1 := blk_free kS 1
  have fkS_2 := blk_free kS 2
  have okR := blk_older kR
  have ckR_0 : _ = some _ := blk_cell kR 0
  have ckR_1 : _ = some _ := blk_cell kR 1
  have ckR_2 : _ = some _ := blk_cell kR 2
  have ckR_3 : _ = some _ := blk_cell kR 3
  have fkR_0 := blk_free kR 0
  have fkR_1 := blk_free kR 1
  have fkR_2 := blk_free kR 2
  have fkR_3 := blk_free kR 3
  apply wp_box1 10 24 8 6 #[.int .i64 0, .int .i64 0] 24 (by kernel_rfl) (by rfl) (by kernel_rfl) (by intro o ho a w; simp at ho; subst ho; simp [go_sem, ptr])
  · intro p0
    simp only [heads, ghost, List.take_succ_cons, List.take_zero, List.map_cons, List.map_nil]
    repeat (go_big_quiet_step ((first | (go_at_call 184; with_reducible_and_instances exact gw_call (cA _ (Pts.to hP bBel))) | (go_at_call 151; with_reducible_and_instances exact gw_call (mul_b _ _ _)) | (go_at_call 239; with_reducible_and_instances exact gw_call (cC _ (Pts.to hP bBel))))))
    exact wpQuiet_nil rfl
  · intro R bB p0 nB gB  kB hK
    simp only [List.drop_succ_cons, List.drop_zero, Act.put, ptr, List.setIfInBounds_toArray, List.set_cons_succ, List.set_cons_zero]
    have cB_0 : _ = some _ := blk_cell kB 0
    have cB_1 : _ = some _ := blk_cell kB 1
    have fB_0 := blk_free kB 0
    have fB_1 := blk_free kB 1
    have oB := blk_older kB
    go_wp2_with fail
    refine box_end1 gB hK ?_ ?_
    · exact bBel
    · exact (by repeat' (first | with_reducible assumption | with_reducible apply blk_gw | with_reducible apply blk_alloc | with_reducible apply blk_set | ((with_reducible apply blk_other); focus (first | omega | assumption))))
  intro bB p0 nB  kB
  have cB_0 : _ = some _ := blk_cell kB 0
  have cB_1 : _ = some _ := blk_cell kB 1
  have fB_0 := blk_free kB 0
  have fB_1 := blk_free kB 1
  have oB := blk_older kB
  go_upto_region 2 with fail
  refine wp_region_gw_tail 9 (by kernel_rfl) (by kernel_rfl) ?_
  simp only [List.take_succ_cons, List.take_zero, List.drop_succ_cons, List.drop_zero]
  repeat (go_big_quiet_step ((first | (go_at_call 240; with_reducible_and_instances exact gw_call (cG _ (Pts.to hP bBel))) | (go_at_call 151; with_reducible_and_instances exact gw_call (mul_b _ _ _)))))
  refine wpQuiet_nil ?_
  intro w1 hw1
  obtain ⟨q, rfl⟩ := hw1
  go_wp2_with fail
  refine post_named ?_
  intro Z hZ
  have kZ : blk Z (w.heap.size + 1) #[.int .i64 (mul AR D), .int .i64 cx, .int .i64 cy, .int .i64 (mul (mul AR D) GY)] 49 := by rw [hZ]; exact (by apply blk_of; (repeat (first | with_reducible exact kR | with_reducible apply blk_drew | with_reducible apply blk_gw | with_reducible apply blk_alloc | with_reducible apply blk_set | ((with_reducible apply blk_other); focus omega))); (first | rfl | simp))
  have hbZ : Below w.heap.size w Z := by rw [hZ]; exact bBel
  clear hZ
  have okZ := blk_older kZ
  have ckZ_0 : _ = some _ := blk_cell kZ 0
  have ckZ_1 : _ = some _ := blk_cell kZ 1
  have ckZ_2 : _ = some _ := blk_cell kZ 2
  have ckZ_3 : _ = some _ := blk_cell kZ 3
  have fkZ_0 := blk_free kZ 0
  have fkZ_1 := blk_free kZ 1
  have fkZ_2 := blk_free kZ 2
  have fkZ_3 := blk_free kZ 3
  exact bodyPost_ret (v := .agg #[.int .i64 (mul AR D), .int .i64 cx, .int .i64 cy, .int .i64 (mul (mul AR D) GY)]) (by simp [results, Tryz.results191, go_sem, ckZ_0, ckZ_1, ckZ_2, ckZ_3]) rfl ⟨rfl, hbZ⟩

set_option maxRecDepth 100000 in
set_option maxHeartbeats 8000000 in
theorem yofs_b (K R : Int) (A : Option Addr) (cap : Nat) (ps : List (Int × Int)) (D : Int) (hl : ps.length ≤ 1000000) (w : World) (hp : Pts w A ps) (hk : ps.length ≤ cap := by first | omega | decide) : Calls Tryz.prog 140 #[.agg #[.int .i64 K, .int .i64 R, .slice A ps.length cap], .int .i64 D] w fun e w' => e = .returned (.agg #[.int .i64 (ofS K R ps D).m, .int .i64 (ofS K R ps D).x, .int .i64 (ofS K R ps D).y, .int .i64 (ofS K R ps D).i]) ∧ Below w.heap.size w w' := by
  have cV := fun w' h => yval_b K R A cap ps hl w' h hk
  by_cases hno : valS K R ps ≠ 0 ∨ D < 0 ∨ 262144 < D
  · rw [ofS_no hno]
    by_cases hv : valS K R ps = 0
    · rw [hv] at cV
      by_cases h0 : D < 0
      · clear hno hv
        go_enter Tryz.func140, Tryz.ntmps140
        go_wp2_with (go_at_call 59; refine Calls.mono (gw_at (cV _ (Pts.to hp bBel))) ?_; rintro e w1 ⟨rfl, q, rfl⟩)
        refine post_named ?_
        intro Z hZ
        have kZ : blk Z (w.heap.size + 1) #[.int .i64 0, .int .i64 0, .int .i64 0, .int .i64 0] 49 := by rw [hZ]; exact bBkn
        have hbZ : Below w.heap.size w Z := by rw [hZ]; exact bBel
        clear hZ
        have okZ := blk_older kZ
        have ckZ_0 : _ = some _ := blk_cell kZ 0
        have ckZ_1 : _ = some _ := blk_cell kZ 1
        have ckZ_2 : _ = some _ := blk_cell kZ 2
        have ckZ_3 : _ = some _ := blk_cell kZ 3
        have fkZ_0 := blk_free kZ 0
        have fkZ_1 := blk_free kZ 1
        have fkZ_2 := blk_free kZ 2
        have fkZ_3 := blk_free kZ 3
        exact bodyPost_ret (v := .agg #[.int .i64 0, .int .i64 0, .int .i64 0, .int .i64 0]) (by simp [results, Tryz.results140, go_sem, ckZ_0, ckZ_1, ckZ_2, ckZ_3]) rfl ⟨rfl, hbZ⟩
      · have h1 : 262144 < D := by omega
        clear hno hv
        go_enter Tryz.func140, Tryz.ntmps140
        go_wp2_with (go_at_call 59; refine Calls.mono (gw_at (cV _ (Pts.to hp bBel))) ?_; rintro e w1 ⟨rfl, q, rfl⟩)
        refine post_named ?_
        intro Z hZ
        have kZ : blk Z (w.heap.size + 1) #[.int .i64 0, .int .i64 0, .int .i64 0, .int .i64 0] 49 := by rw [hZ]; exact bBkn
        have hbZ : Below w.heap.size w Z := by rw [hZ]; exact bBel
        clear hZ
        have okZ := blk_older kZ
        have ckZ_0 : _ = some _ := blk_cell kZ 0
        have ckZ_1 : _ = some _ := blk_cell kZ 1
        have ckZ_2 : _ = some _ := blk_cell kZ 2
        have ckZ_3 : _ = some _ := blk_cell kZ 3
        have fkZ_0 := blk_free kZ 0
        have fkZ_1 := blk_free kZ 1
        have fkZ_2 := blk_free kZ 2
        have fkZ_3 := blk_free kZ 3
        exact bodyPost_ret (v := .agg #[.int .i64 0, .int .i64 0, .int .i64 0, .int .i64 0]) (by simp [results, Tryz.results140, go_sem, ckZ_0, ckZ_1, ckZ_2, ckZ_3]) rfl ⟨rfl, hbZ⟩
    · have b1 : (valS K R ps != 0) = true := by rw [bne_iff_ne]; exact hv
      clear hno hv
      generalize valS K R ps = V at *
      go_enter Tryz.func140, Tryz.ntmps140
      go_wp2_with (go_at_call 59; refine Calls.mono (gw_at (cV _ (Pts.to hp bBel))) ?_; rintro e w1 ⟨rfl, q, rfl⟩)
      refine post_named ?_
      intro Z hZ
      have kZ : blk Z (w.heap.size + 1) #[.int .i64 0, .int .i64 0, .int .i64 0, .int .i64 0] 49 := by rw [hZ]; exact bBkn
      have hbZ : Below w.heap.size w Z := by rw [hZ]; exact bBel
      clear hZ
      have okZ := blk_older kZ
      have ckZ_0 : _ = some _ := blk_cell kZ 0
      have ckZ_1 : _ = some _ := blk_cell kZ 1
      have ckZ_2 : _ = some _ := blk_cell kZ 2
      have ckZ_3 : _ = some _ := blk_cell kZ 3
      have fkZ_0 := blk_free kZ 0
      have fkZ_1 := blk_free kZ 1
      have fkZ_2 := blk_free kZ 2
      have fkZ_3 := blk_free kZ 3
      exact bodyPost_ret (v := .agg #[.int .i64 0, .int .i64 0, .int .i64 0, .int .i64 0]) (by simp [results, Tryz.results140, go_sem, ckZ_0, ckZ_1, ckZ_2, ckZ_3]) rfl ⟨rfl, hbZ⟩
  have hv : valS K R ps = 0 := by omega
  have h0 : ¬ D < 0 := by omega
  have h1 : ¬ 262144 < D := by omega
  have hlen := val_len hv
  have hK := (valS_zero.1 hv).1
  rw [hv] at cV
  rcases (by omega : K = 1 ∨ K = 2 ∨ K = 3) with rfl | rfl | rfl
  · have cO : ∀ w', Pts w' A ps → Calls Tryz.prog 189 #[.agg #[.int .i64 1, .int .i64 R, .slice A ps.length cap], .int .i64 D] w' fun e w'' => e = .returned (.agg #[.int .i64 (ofS 1 R ps D).m, .int .i64 (ofS 1 R ps D).x, .int .i64 (ofS 1 R ps D).y, .int .i64 (ofS 1 R ps D).i]) ∧ Below w'.heap.size w' w'' := fun w' h => by
      rw [ofS_1 hv (by omega) (by omega) rfl]; exact ycir_b 1 R A cap ps D (by omega) (by omega) w' h
    clear hno hv hlen hK
    generalize ofS 1 R ps D = P at *
    go_enter Tryz.func140, Tryz.ntmps140
    go_wp2_with (first | (go_at_call 59; refine Calls.mono (gw_at (cV _ (Pts.to hp bBel))) ?_; rintro e w1 ⟨rfl, q, rfl⟩) | (go_at_call 189; refine Calls.mono (gw_at (cO _ (Pts.to hp bBel))) ?_; rintro e w1 ⟨rfl, q2, rfl⟩))
    refine post_named ?_
    intro Z hZ
    have kZ : blk Z (w.heap.size + 1) #[.int .i64 P.m, .int .i64 P.x, .int .i64 P.y, .int .i64 P.i] 49 := by rw [hZ]; first | exact bBkn | exact (by apply blk_of; (repeat (first  | with_reducible apply blk_drew | with_reducible apply blk_gw | with_reducible apply blk_alloc | with_reducible apply blk_set | ((with_reducible apply blk_other); focus omega))); (first | rfl | simp))
    have hbZ : Below w.heap.size w Z := by rw [hZ]; exact bBel
    clear hZ
    have okZ := blk_older kZ
    have ckZ_0 : _ = some _ := blk_cell kZ 0
    have ckZ_1 : _ = some _ := blk_cell kZ 1
    have ckZ_2 : _ = some _ := blk_cell kZ 2
    have ckZ_3 : _ = some _ := blk_cell kZ 3
    have fkZ_0 := blk_free kZ 0
    have fkZ_1 := blk_free kZ 1
    have fkZ_2 := blk_free kZ 2
    have fkZ_3 := blk_free kZ 3
    exact bodyPost_ret (v := .agg #[.int .i64 P.m, .int .i64 P.x, .int .i64 P.y, .int .i64 P.i]) (by simp [results, Tryz.results140, go_sem, ckZ_0, ckZ_1, ckZ_2, ckZ_3]) rfl ⟨rfl, hbZ⟩
  · have cO : ∀ w', Pts w' A ps → Calls Tryz.prog 190 #[.agg #[.int .i64 2, .int .i64 R, .slice A ps.length cap], .int .i64 D] w' fun e w'' => e = .returned (.agg #[.int .i64 (ofS 2 R ps D).m, .int .i64 (ofS 2 R ps D).x, .int .i64 (ofS 2 R ps D).y, .int .i64 (ofS 2 R ps D).i]) ∧ Below w'.heap.size w' w'' := fun w' h => by
      rw [ofS_2 hv (by omega) (by omega) rfl]; exact ycap_b 2 R A cap ps D (by have := hlen.2.2.2.1 rfl; omega) (by omega) w' h
    clear hno hv hlen hK
    generalize ofS 2 R ps D = P at *
    go_enter Tryz.func140, Tryz.ntmps140
    go_wp2_with (first | (go_at_call 59; refine Calls.mono (gw_at (cV _ (Pts.to hp bBel))) ?_; rintro e w1 ⟨rfl, q, rfl⟩) | (go_at_call 190; refine Calls.mono (gw_at (cO _ (Pts.to hp bBel))) ?_; rintro e w1 ⟨rfl, q2, rfl⟩))
    refine post_named ?_
    intro Z hZ
    have kZ : blk Z (w.heap.size + 1) #[.int .i64 P.m, .int .i64 P.x, .int .i64 P.y, .int .i64 P.i] 49 := by rw [hZ]; first | exact bBkn | exact (by apply blk_of; (repeat (first  | with_reducible apply blk_drew | with_reducible apply blk_gw | with_reducible apply blk_alloc | with_reducible apply blk_set | ((with_reducible apply blk_other); focus omega))); (first | rfl | simp))
    have hbZ : Below w.heap.size w Z := by rw [hZ]; exact bBel
    clear hZ
    have okZ := blk_older kZ
    have ckZ_0 : _ = some _ := blk_cell kZ 0
    have ckZ_1 : _ = some _ := blk_cell kZ 1
    have ckZ_2 : _ = some _ := blk_cell kZ 2
    have ckZ_3 : _ = some _ := blk_cell kZ 3
    have fkZ_0 := blk_free kZ 0
    have fkZ_1 := blk_free kZ 1
    have fkZ_2 := blk_free kZ 2
    have fkZ_3 := blk_free kZ 3
    exact bodyPost_ret (v := .agg #[.int .i64 P.m, .int .i64 P.x, .int .i64 P.y, .int .i64 P.i]) (by simp [results, Tryz.results140, go_sem, ckZ_0, ckZ_1, ckZ_2, ckZ_3]) rfl ⟨rfl, hbZ⟩
  · have cO : ∀ w', Pts w' A ps → Calls Tryz.prog 191 #[.agg #[.int .i64 3, .int .i64 R, .slice A ps.length cap], .int .i64 D] w' fun e w'' => e = .returned (.agg #[.int .i64 (ofS 3 R ps D).m, .int .i64 (ofS 3 R ps D).x, .int .i64 (ofS 3 R ps D).y, .int .i64 (ofS 3 R ps D).i]) ∧ Below w'.heap.size w' w'' := fun w' h => by
      rw [ofS_3 hv (by omega) (by omega) rfl]; exact ypol_b 3 R A cap ps D hlen.2.1 w' h hk
    clear hno hv hlen hK
    generalize ofS 3 R ps D = P at *
    go_enter Tryz.func140, Tryz.ntmps140
    go_wp2_with (first | (go_at_call 59; refine Calls.mono (gw_at (cV _ (Pts.to hp bBel))) ?_; rintro e w1 ⟨rfl, q, rfl⟩) | (go_at_call 191; refine Calls.mono (gw_at (cO _ (Pts.to hp bBel))) ?_; rintro e w1 ⟨rfl, q2, rfl⟩))
    refine post_named ?_
    intro Z hZ
    have kZ : blk Z (w.heap.size + 1) #[.int .i64 P.m, .int .i64 P.x, .int .i64 P.y, .int .i64 P.i] 49 := by rw [hZ]; first | exact bBkn | exact (by apply blk_of; (repeat (first  | with_reducible apply blk_drew | with_reducible apply blk_gw | with_reducible apply blk_alloc | with_reducible apply blk_set | ((with_reducible apply blk_other); focus omega))); (first | rfl | simp))
    have hbZ : Below w.heap.size w Z := by rw [hZ]; exact bBel
    clear hZ
    have okZ := blk_older kZ
    have ckZ_0 : _ = some _ := blk_cell kZ 0
    have ckZ_1 : _ = some _ := blk_cell kZ 1
    have ckZ_2 : _ = some _ := blk_cell kZ 2
    have ckZ_3 : _ = some _ := blk_cell kZ 3
    have fkZ_0 := blk_free kZ 0
    have fkZ_1 := blk_free kZ 1
    have fkZ_2 := blk_free kZ 2
    have fkZ_3 := blk_free kZ 3
    exact bodyPost_ret (v := .agg #[.int .i64 P.m, .int .i64 P.x, .int .i64 P.y, .int .i64 P.i]) (by simp [results, Tryz.results140, go_sem, ckZ_0, ckZ_1, ckZ_2, ckZ_3]) rfl ⟨rfl, hbZ⟩

end Go.Proofs.YtdmcdicphohlfaaGreat

set_option linter.unusedVariables false
namespace Go.Proofs.YtdmcdicphohlfaaGreat
open Go.RowKit Fx

def cfRen : Go.Shelf.Ren := ⟨fun
  | 6 => 241
  | 8 => 192
  | n => n, fun
  | 0 => 0
  | 3 => 3
  | 4 => 4
  | 22 => 146
  | 23 => 49
  | 25 => 178
  | n => n, fun n => n⟩
theorem cf_lays : SlLaysH0.n8 Tryz.prog cfRen := {
  mixed := by kernel_rfl
  f6 := ⟨"slices.IndexFunc[[]carom/api.MassData,carom/api.MassData]", by decide, by kernel_rfl⟩
  f8 := ⟨"slices.ContainsFunc[[]carom/api.MassData,carom/api.MassData]", by decide, by kernel_rfl⟩
  t0 := by kernel_rfl
  a0 := fun _ => by kernel_rfl
  z0 := fun _ => by kernel_rfl
  v0 := fun _ => by kernel_rfl
  t3 := by kernel_rfl
  a3 := fun _ => by kernel_rfl
  z3 := fun _ => by kernel_rfl
  v3 := fun _ => by kernel_rfl
  t4 := by kernel_rfl
  a4 := fun _ => by kernel_rfl
  z4 := fun _ => by kernel_rfl
  v4 := fun _ => by kernel_rfl
  t22 := by kernel_rfl
  a22 := fun _ => by kernel_rfl
  z22 := fun _ => by kernel_rfl
  v22 := fun _ => by kernel_rfl
  t25 := by kernel_rfl
  a25 := fun _ => by kernel_rfl
  z25 := fun _ => by kernel_rfl
  v25 := fun _ => by kernel_rfl }

theorem yneg_b (M x y I : Int) (w : World) : Calls Tryz.prog 193 #[.agg #[.int .i64 M, .int .i64 x, .int .i64 y, .int .i64 I]] w fun e w' => e = .returned (.bool (decide (M < 0))) ∧ Below w.heap.size w w' := by
  go_enter Tryz.func193, Tryz.ntmps193
  go_wp2_with fail
  go_ret
  exact ⟨rfl, bBel⟩

theorem xif0_b (A : Option Addr) (cap : Nat) (f : Value) (w : World) : Calls Tryz.prog 241 #[.slice A 0 cap, f] w fun e w' => e = .returned (.int .i64 (-1)) ∧ Below w.heap.size w w' := by
  go_enter Tryz.func241, Tryz.ntmps241
  go_wp2_with fail
  go_loopw [8] (fun i wr => i = .int .i64 0 ∧ wr = w)
    (fun _ _ => 0)
  case atStart => exact ⟨rfl, rfl⟩
  case round =>
    obtain ⟨rfl, rfl⟩ := hrel
    go_wp2_with fail
    go_ret
    exact ⟨rfl, Below.refl _ _⟩

theorem xcf_b (A : Option Addr) (cap : Nat) (l : List Md) (hl : l.length ≤ 4611686018427387904) (w : World) (ha : Mds w A l) : Calls Tryz.prog 192 #[.slice A l.length cap, .func (.func 193) #[] #[]] w fun e w' => e = .returned (.bool (l.any fun p => decide (p.m < 0))) ∧ Below w.heap.size w w' := by
  by_cases h0 : l.length = 0
  · obtain rfl : l = [] := List.length_eq_zero_iff.1 h0
    go_enter Tryz.func192, Tryz.ntmps192
    go_wp2_with (go_at_call 241; refine Calls.mono (gw_at (xif0_b _ _ _ _)) ?_; rintro e w1 ⟨rfl, q, rfl⟩)
    go_ret
    exact ⟨rfl, bBel⟩
  · obtain ⟨b, off, rfl, hc⟩ := mds_open ha (by omega)
    have hb : b < w.heap.size := older_iff.1 (older_of_cell (hc 0 (by omega) w (Below.refl _ _)).1)
    have hI : Inhabited Md := ⟨Md.zero⟩
    have L := AnyQ.slices_ContainsFunc cf_lays 4 (fun _ => by kernel_rfl) (fun _ => by kernel_rfl) mdc (fun _ => rfl) (fun p => decide (p.m < 0)) 193 #[] (enters_of Tryz.func193 (by kernel_rfl) rfl) b off l.length cap l w
      (fun W x hW => Calls.mono (yneg_b x.m x.x x.y x.i W) (fun e w' h => ⟨h.1, Below.trans hW (h.2.mono hW.size)⟩)) (Nat.le_refl _) (by omega) hb
      (fun j hj i v hv => by
        obtain ⟨g0, g1, g2, g3⟩ := hc j hj w (Below.refl _ _)
        rw [getElem!_pos l j hj] at hv
        match i, hv with
        | 0, hv => simp [mdc] at hv; subst hv; exact g0
        | 1, hv => simp [mdc] at hv; subst hv; exact g1
        | 2, hv => simp [mdc] at hv; subst hv; exact g2
        | 3, hv => simp [mdc] at hv; subst hv; exact g3
        | i + 4, hv => simp [mdc] at hv)
    rw [List.take_length] at L
    exact L

theorem ccx_rd (l : List Md) : ccx l = rdiv (cmx l) (csum l) := by
  unfold ccx; split
  · rfl
  · exact (rdiv_out (by omega)).symm
theorem ccy_rd (l : List Md) : ccy l = rdiv (cmy l) (csum l) := by
  unfold ccy; split
  · rfl
  · exact (rdiv_out (by omega)).symm
theorem add_satr (a b : Int) : add a (sat b) = add a b := by unfold add; rw [sat_sat]

set_option maxHeartbeats 8000000 in
theorem ycc_b (A : Option Addr) (cap : Nat) (l : List Md) (h8 : l.length ≤ 8) (w : World) (ha : Mds w A l) : Calls Tryz.prog 194 #[.slice A l.length cap] w fun e w' => e = .returned (.agg #[.int .i64 (ccx l), .int .i64 (ccy l)]) ∧ Below w.heap.size w w' := by
  rw [ccx_rd, ccy_rd]
  have s1 := csum_in l
  have s2 := cmx_in l
  have s3 := cmy_in l
  have f1 : ∀ k (h : k < l.length), Hid (csum (l.take (k + 1)) = csum (l.take k) + sat l[k].m) := fun k h => fold_take _ _ _ h
  have f2 : ∀ k (h : k < l.length), Hid (cmx (l.take (k + 1)) = cmx (l.take k) + sat l[k].m * sat l[k].x) := fun k h => fold_take _ _ _ h
  have f3 : ∀ k (h : k < l.length), Hid (cmy (l.take (k + 1)) = cmy (l.take k) + sat l[k].m * sat l[k].y) := fun k h => fold_take _ _ _ h
  go_enter Tryz.func194, Tryz.ntmps194
  go_wp2_with fail
  go_loopw [3, 10] (fun m i wr => ∃ k : Nat, k ≤ l.length ∧ i = .int .i64 (k : Int) ∧ m = .int .i64 (csum (l.take k)) ∧ blk wr w.heap.size #[.int .i64 0, .int .i64 0] 24 ∧ blk wr (w.heap.size + 1) #[.int .i64 (cmx (l.take k)), .int .i64 (cmy (l.take k))] 24 ∧ Below w.heap.size w wr)
    (fun _ i _ => (l.length - intOf i).toNat)
  case atStart => exact ⟨0, by omega, rfl, rfl, bBkn, by show blk _ _ #[.int .i64 0, .int .i64 0] _; exact bBkn, bBel⟩
  case round =>
    obtain ⟨k, hk, rfl, rfl, kR, kM, hbw⟩ := hrel
    have hsz := hbw.size
    have hltM := blk_lt kM
    have okR := blk_older kR
    have ckR_0 : _ = some _ := blk_cell kR 0
    have ckR_1 : _ = some _ := blk_cell kR 1
    have fkR_0 := blk_free kR 0
    have fkR_1 := blk_free kR 1
    have okM := blk_older kM
    have ckM_0 : _ = some _ := blk_cell kM 0
    have ckM_1 : _ = some _ := blk_cell kM 1
    have fkM_0 := blk_free kM 0
    have fkM_1 := blk_free kM 1
    by_cases hlt : k < l.length
    · have j0 : (0 : Int) ≤ (k : Int) := by omega
      have j1 : (k : Int) < (l.length : Int) := by omega
      obtain ⟨b2, off2, hA2, hc2⟩ := mds_open ha (by omega)
      subst hA2
      obtain ⟨d0, d1, d2, d3⟩ := hc2 k hlt _ hbw
      have od := older_of_cell d0
      have g1 := f1 k hlt
      have g2 := f2 k hlt
      have g3 := f3 k hlt
      have t1 := s1 (k + 1)
      have t2 := s2 (k + 1)
      have t3 := s3 (k + 1)
      clear f1 f2 f3 s1 s2 s3 hc2
      generalize l[k].m = M at *
      generalize l[k].x = X at *
      generalize l[k].y = Y at *
      generalize l[k].i = I at *
      have p2 := satmul M X
      have p3 := satmul M Y
      have u1 := g1.out
      have u2 := g2.out
      have u3 := g3.out
      have r1 : wrap64 (csum (l.take k) + sat M) = csum (l.take k) + sat M := by rw [← u1]; unfold wrap64; omega
      have r2 : wrap64 (sat M * sat X) = sat M * sat X := by unfold wrap64; omega
      have r3 : wrap64 (cmx (l.take k) + sat M * sat X) = cmx (l.take k) + sat M * sat X := by rw [← u2]; unfold wrap64; omega
      have r4 : wrap64 (sat M * sat Y) = sat M * sat Y := by unfold wrap64; omega
      have r5 : wrap64 (cmy (l.take k) + sat M * sat Y) = cmy (l.take k) + sat M * sat Y := by rw [← u3]; unfold wrap64; omega
      clear t1 t2 t3 p2 p3 u1 u2 u3
      generalize csum (l.take k) = S1 at *
      generalize cmx (l.take k) = S2 at *
      generalize cmy (l.take k) = S3 at *
      go_upto_region 8 with (go_at_call 164; refine Calls.mono (gw_at (sat_b _ _)) ?_; rintro e w1 ⟨rfl, q, rfl⟩)
      refine wp_named ?_
      intro V hV
      have kP : blk V wr.heap.size #[.int .i64 M, .int .i64 X, .int .i64 Y, .int .i64 I] 49 := by rw [hV]; exact bBkn
      have kR2 : blk V w.heap.size #[.int .i64 0, .int .i64 0] 24 := by rw [hV]; exact (by apply blk_of; (repeat (first | with_reducible exact kR | with_reducible apply blk_drew | with_reducible apply blk_gw | with_reducible apply blk_alloc | with_reducible apply blk_set | ((with_reducible apply blk_other); focus omega))); (first | rfl | simp))
      have kM2 : blk V (w.heap.size + 1) #[.int .i64 S2, .int .i64 S3] 24 := by rw [hV]; exact (by apply blk_of; (repeat (first | with_reducible exact kM | with_reducible apply blk_drew | with_reducible apply blk_gw | with_reducible apply blk_alloc | with_reducible apply blk_set | ((with_reducible apply blk_other); focus omega))); (first | rfl | simp))
      have hbV : Below w.heap.size w V := by rw [hV]; exact bBel
      clear hV kR kM okR okM ckR_0 ckR_1 fkR_0 fkR_1 ckM_0 ckM_1 fkM_0 fkM_1 d0 d1 d2 d3 od hbw
      generalize wr.heap.size = P at *
      have hszV := hbV.size
      have okP := blk_older kP
      have ckP_0 : _ = some _ := blk_cell kP 0
      have ckP_1 : _ = some _ := blk_cell kP 1
      have ckP_2 : _ = some _ := blk_cell kP 2
      have ckP_3 : _ = some _ := blk_cell kP 3
      have fkP_0 := blk_free kP 0
      have fkP_1 := blk_free kP 1
      have fkP_2 := blk_free kP 2
      have fkP_3 := blk_free kP 3
      have okR2 := blk_older kR2
      have ckR2_0 : _ = some _ := blk_cell kR2 0
      have ckR2_1 : _ = some _ := blk_cell kR2 1
      have fkR2_0 := blk_free kR2 0
      have fkR2_1 := blk_free kR2 1
      have okM2 := blk_older kM2
      have ckM2_0 : _ = some _ := blk_cell kM2 0
      have ckM2_1 : _ = some _ := blk_cell kM2 1
      have fkM2_0 := blk_free kM2 0
      have fkM2_1 := blk_free kM2 1
      refine wp_region_gw_tail 10 (by kernel_rfl) (by kernel_rfl) ?_
      simp only [List.take_succ_cons, List.take_zero, List.drop_succ_cons, List.drop_zero]
      repeat (go_big_quiet_step ((first | (go_at_call 164; exact gw_call (sat_b _ _)) | (go_at_call 206; exact gw_call (rd_b _ _ _)))))
      refine wpQuiet_nil ?_
      intro w1 hw1
      obtain ⟨q, rfl⟩ := hw1
      go_upto_region 9 with fail
      refine wp_named ?_
      intro U hU
      have kP2 : blk U P #[.int .i64 M, .int .i64 X, .int .i64 Y, .int .i64 I] 49 := by rw [hU]; exact (by apply blk_of; (repeat (first | with_reducible exact kP | with_reducible apply blk_drew | with_reducible apply blk_gw | with_reducible apply blk_alloc | with_reducible apply blk_set | ((with_reducible apply blk_other); focus omega))); (first | rfl | simp))
      have kR3 : blk U w.heap.size #[.int .i64 0, .int .i64 0] 24 := by rw [hU]; exact (by apply blk_of; (repeat (first | with_reducible exact kR2 | with_reducible apply blk_drew | with_reducible apply blk_gw | with_reducible apply blk_alloc | with_reducible apply blk_set | ((with_reducible apply blk_other); focus omega))); (first | rfl | simp))
      have kM3 : blk U (w.heap.size + 1) #[.int .i64 (S2 + sat M * sat X), .int .i64 S3] 24 := by rw [hU]; exact (by apply blk_of; (repeat (first | with_reducible exact kM2 | with_reducible apply blk_drew | with_reducible apply blk_gw | with_reducible apply blk_alloc | with_reducible apply blk_set | ((with_reducible apply blk_other); focus omega))); (first | rfl | simp))
      have hbU : Below w.heap.size w U := by rw [hU]; exact bBel
      clear hU kP kR2 kM2 okP okR2 okM2 ckP_0 ckP_1 ckP_2 ckP_3 fkP_0 fkP_1 fkP_2 fkP_3 ckR2_0 ckR2_1 fkR2_0 fkR2_1 ckM2_0 ckM2_1 fkM2_0 fkM2_1 hbV hszV
      have hszU := hbU.size
      have okP2 := blk_older kP2
      have ckP2_0 : _ = some _ := blk_cell kP2 0
      have ckP2_1 : _ = some _ := blk_cell kP2 1
      have ckP2_2 : _ = some _ := blk_cell kP2 2
      have ckP2_3 : _ = some _ := blk_cell kP2 3
      have fkP2_0 := blk_free kP2 0
      have fkP2_1 := blk_free kP2 1
      have fkP2_2 := blk_free kP2 2
      have fkP2_3 := blk_free kP2 3
      have okR3 := blk_older kR3
      have ckR3_0 : _ = some _ := blk_cell kR3 0
      have ckR3_1 : _ = some _ := blk_cell kR3 1
      have fkR3_0 := blk_free kR3 0
      have fkR3_1 := blk_free kR3 1
      have okM3 := blk_older kM3
      have ckM3_0 : _ = some _ := blk_cell kM3 0
      have ckM3_1 : _ = some _ := blk_cell kM3 1
      have fkM3_0 := blk_free kM3 0
      have fkM3_1 := blk_free kM3 1
      refine wp_region_gw_tail 10 (by kernel_rfl) (by kernel_rfl) ?_
      simp only [List.take_succ_cons, List.take_zero, List.drop_succ_cons, List.drop_zero]
      repeat (go_big_quiet_step ((first | (go_at_call 164; exact gw_call (sat_b _ _)) | (go_at_call 206; exact gw_call (rd_b _ _ _)))))
      refine wpQuiet_nil ?_
      intro w1 hw1
      obtain ⟨q, rfl⟩ := hw1
      go_wp2_with fail
      exact ⟨⟨k + 1, by omega, by go_num, by first | (rw [g1.out]; done) | (rw [g1.out, r1]; done), (by apply blk_of; (repeat (first | with_reducible exact kR3 | with_reducible apply blk_drew | with_reducible apply blk_gw | with_reducible apply blk_alloc | with_reducible apply blk_set | ((with_reducible apply blk_other); focus omega))); (first | rfl | simp)), by rw [g2.out, g3.out]; exact (by apply blk_of; (repeat (first | with_reducible exact kM3 | with_reducible apply blk_drew | with_reducible apply blk_gw | with_reducible apply blk_alloc | with_reducible apply blk_set | ((with_reducible apply blk_other); focus omega))); (first | rfl | simp)), bBel⟩, by (try go_num); simp [intOf]; (try omega)⟩
    · obtain rfl : k = l.length := by omega
      have j1 : ¬ (l.length : Int) < (l.length : Int) := by omega
      rw [List.take_length] at *
      clear f1 f2 f3 s1 s2 s3
      go_wp2_with fail
      refine wp_region_gw_tail 9 (by kernel_rfl) (by kernel_rfl) ?_
      simp only [List.take_succ_cons, List.take_zero, List.drop_succ_cons, List.drop_zero]
      repeat (go_big_quiet_step ((first | (go_at_call 164; exact gw_call (sat_b _ _)) | (go_at_call 206; exact gw_call (rd_b _ _ _)))))
      refine wpQuiet_nil ?_
      intro w1 hw1
      obtain ⟨q, rfl⟩ := hw1
      go_wp2_with fail
      refine post_named ?_
      intro Z hZ
      have kZ : blk Z w.heap.size #[.int .i64 (rdiv (cmx l) (csum l)), .int .i64 (rdiv (cmy l) (csum l))] 24 := by rw [hZ]; exact (by apply blk_of; (repeat (first | with_reducible exact kR | with_reducible apply blk_drew | with_reducible apply blk_gw | with_reducible apply blk_alloc | with_reducible apply blk_set | ((with_reducible apply blk_other); focus omega))); (first | rfl | simp))
      have hbZ : Below w.heap.size w Z := by rw [hZ]; exact bBel
      clear hZ
      have okZ := blk_older kZ
      have ckZ_0 : _ = some _ := blk_cell kZ 0
      have ckZ_1 : _ = some _ := blk_cell kZ 1
      have fkZ_0 := blk_free kZ 0
      have fkZ_1 := blk_free kZ 1
      exact bodyPost_ret (v := .agg #[.int .i64 (rdiv (cmx l) (csum l)), .int .i64 (rdiv (cmy l) (csum l))]) (by simp [results, Tryz.results194, go_sem, ckZ_0, ckZ_1]) rfl ⟨rfl, hbZ⟩

end Go.Proofs.YtdmcdicphohlfaaGreat

set_option linter.unusedVariables false
namespace Go.Proofs.YtdmcdicphohlfaaGreat
open Go.RowKit Fx

set_option maxRecDepth 100000 in
set_option maxHeartbeats 16000000 in
theorem ycomb_b (A : Option Addr) (cap : Nat) (l : List Md) (hl : l.length ≤ 1000000) (w : World) (ha : Mds w A l) : Calls Tryz.prog 141 #[.slice A l.length cap] w fun e w' => e = .returned (.agg #[.int .i64 (comb l).m, .int .i64 (comb l).x, .int .i64 (comb l).y, .int .i64 (comb l).i]) ∧ Below w.heap.size w w' := by
  have cF := fun w' h => xcf_b A cap l (by omega) w' h
  by_cases h8 : 8 < l.length
  focus
    have e : comb l = Md.zero := if_pos (.inl h8)
    have i8 : (8 : Int) < (l.length : Int) := by omega
    rw [e]
    clear e h8
    go_enter Tryz.func141, Tryz.ntmps141
    go_wp2_with fail
    refine post_named ?_
    intro Z hZ
    have kZ : blk Z w.heap.size #[.int .i64 0, .int .i64 0, .int .i64 0, .int .i64 0] 49 := by rw [hZ]; exact bBkn
    have hbZ : Below w.heap.size w Z := by rw [hZ]; exact bBel
    clear hZ
    have okZ := blk_older kZ
    have ckZ_0 : _ = some _ := blk_cell kZ 0
    have ckZ_1 : _ = some _ := blk_cell kZ 1
    have ckZ_2 : _ = some _ := blk_cell kZ 2
    have ckZ_3 : _ = some _ := blk_cell kZ 3
    have fkZ_0 := blk_free kZ 0
    have fkZ_1 := blk_free kZ 1
    have fkZ_2 := blk_free kZ 2
    have fkZ_3 := blk_free kZ 3
    exact bodyPost_ret (v := .agg #[.int .i64 0, .int .i64 0, .int .i64 0, .int .i64 0]) (by simp [results, Tryz.results141, go_sem, ckZ_0, ckZ_1, ckZ_2, ckZ_3]) rfl ⟨rfl, hbZ⟩
  have i8 : ¬ (8 : Int) < (l.length : Int) := by omega
  cases hn : l.any fun p => decide (p.m < 0)
  rotate_left
  focus
    have e : comb l = Md.zero := if_pos (.inr (by simpa using hn))
    rw [e]
    rw [hn] at cF
    clear e h8 hn
    go_enter Tryz.func141, Tryz.ntmps141
    go_wp2_with (go_at_call 192; refine Calls.mono (gw_at (cF _ (Mds.to ha bBel))) ?_; rintro e w1 ⟨rfl, q, rfl⟩)
    refine post_named ?_
    intro Z hZ
    have kZ : blk Z w.heap.size #[.int .i64 0, .int .i64 0, .int .i64 0, .int .i64 0] 49 := by rw [hZ]; first | exact bBkn | exact (by apply blk_of; (repeat (first  | with_reducible apply blk_drew | with_reducible apply blk_gw | with_reducible apply blk_alloc | with_reducible apply blk_set | ((with_reducible apply blk_other); focus omega))); (first | rfl | simp))
    have hbZ : Below w.heap.size w Z := by rw [hZ]; exact bBel
    clear hZ
    have okZ := blk_older kZ
    have ckZ_0 : _ = some _ := blk_cell kZ 0
    have ckZ_1 : _ = some _ := blk_cell kZ 1
    have ckZ_2 : _ = some _ := blk_cell kZ 2
    have ckZ_3 : _ = some _ := blk_cell kZ 3
    have fkZ_0 := blk_free kZ 0
    have fkZ_1 := blk_free kZ 1
    have fkZ_2 := blk_free kZ 2
    have fkZ_3 := blk_free kZ 3
    exact bodyPost_ret (v := .agg #[.int .i64 0, .int .i64 0, .int .i64 0, .int .i64 0]) (by simp [results, Tryz.results141, go_sem, ckZ_0, ckZ_1, ckZ_2, ckZ_3]) rfl ⟨rfl, hbZ⟩
  have e : comb l = ⟨cmass l, ccx l, ccy l, cin (ccx l) (ccy l) l⟩ := if_neg (by
    rintro (g | ⟨p, hp, g⟩)
    · exact h8 g
    · have := List.any_eq_false.1 hn p hp; simp at this; omega)
  rw [e]
  rw [hn] at cF
  have cC := fun w' h => ycc_b A cap l (by omega) w' h
  have f0 : ∀ k (h : k < l.length), Hid (cmass (l.take (k + 1)) = add (cmass (l.take k)) l[k].m) := fun k h => by
    show _ = _; rw [← add_satr]; exact fold_take _ _ _ h
  have f4 : ∀ k (h : k < l.length), Hid (cin (ccx l) (ccy l) (l.take (k + 1)) = add (add (cin (ccx l) (ccy l) (l.take k)) l[k].i) (mul l[k].m (dot (sub l[k].x (ccx l)) (sub l[k].y (ccy l)) (sub l[k].x (ccx l)) (sub l[k].y (ccy l))))) := fun k h => fold_take _ _ _ h
  have z0 : cmass (l.take 0) = 0 := rfl
  have z4 : cin (ccx l) (ccy l) (l.take 0) = 0 := rfl
  have e0 : cmass (l.take l.length) = cmass l := by rw [List.take_length]
  have e4 : cin (ccx l) (ccy l) (l.take l.length) = cin (ccx l) (ccy l) l := by rw [List.take_length]
  clear e hn h8
  generalize ccx l = cx at *
  generalize ccy l = cy at *
  go_enter Tryz.func141, Tryz.ntmps141
  go_upto_region 4 with (first | (go_at_call 192; refine Calls.mono (gw_at (cF _ (Mds.to ha bBel))) ?_; rintro e w1 ⟨rfl, q, rfl⟩) | (go_at_call 194; refine Calls.mono (gw_at (cC _ (Mds.to ha bBel))) ?_; rintro e w1 ⟨rfl, q2, rfl⟩))
  refine wp_named ?_
  intro W hW
  have kR0 : blk W w.heap.size #[.int .i64 0, .int .i64 0, .int .i64 0, .int .i64 0] 49 := by rw [hW]; exact bBkn
  have kO0 : blk W (w.heap.size + 1 + q.os.size + q2.os.size) #[.int .i64 0, .int .i64 cx, .int .i64 cy, .int .i64 0] 49 := by rw [hW]; exact bBkn
  have hB : w.heap.size < w.heap.size + 1 + q.os.size + q2.os.size := by omega
  have hbW : Below w.heap.size w W := by rw [hW]; exact bBel
  clear hW cC cF
  generalize w.heap.size + 1 + q.os.size + q2.os.size = B at *
  go_wp2_with fail
  go_loopw [20] (fun i wr => ∃ k : Nat, k ≤ l.length ∧ i = .int .i64 (k : Int) ∧ blk wr w.heap.size #[.int .i64 0, .int .i64 0, .int .i64 0, .int .i64 0] 49 ∧ blk wr B #[.int .i64 (cmass (l.take k)), .int .i64 cx, .int .i64 cy, .int .i64 (cin cx cy (l.take k))] 49 ∧ Below w.heap.size w wr)
    (fun i _ => (l.length - intOf i).toNat)
  case atStart => exact ⟨0, by omega, rfl, by first | exact kR0 | exact blk_gw kR0, by rw [z0, z4]; first | exact kO0 | exact blk_gw kO0, by first | exact hbW | exact bBel⟩
  case round =>
    obtain ⟨k, hk, rfl, kR, kO, hbw⟩ := hrel
    have hsz := hbw.size
    have hltO := blk_lt kO
    have okR := blk_older kR
    have ckR_0 : _ = some _ := blk_cell kR 0
    have ckR_1 : _ = some _ := blk_cell kR 1
    have ckR_2 : _ = some _ := blk_cell kR 2
    have ckR_3 : _ = some _ := blk_cell kR 3
    have fkR_0 := blk_free kR 0
    have fkR_1 := blk_free kR 1
    have fkR_2 := blk_free kR 2
    have fkR_3 := blk_free kR 3
    have okO := blk_older kO
    have ckO_0 : _ = some _ := blk_cell kO 0
    have ckO_1 : _ = some _ := blk_cell kO 1
    have ckO_2 : _ = some _ := blk_cell kO 2
    have ckO_3 : _ = some _ := blk_cell kO 3
    have fkO_0 := blk_free kO 0
    have fkO_1 := blk_free kO 1
    have fkO_2 := blk_free kO 2
    have fkO_3 := blk_free kO 3
    by_cases hlt : k < l.length
    · have j0 : (0 : Int) ≤ (k : Int) := by omega
      have j1 : (k : Int) < (l.length : Int) := by omega
      obtain ⟨b2, off2, hA2, hc2⟩ := mds_open ha (by omega)
      subst hA2
      obtain ⟨d0, d1, d2, d3⟩ := hc2 k hlt _ hbw
      have od := older_of_cell d0
      have g0 := f0 k hlt
      have g4 := f4 k hlt
      clear f0 f4 hc2 z0 z4 e0 e4
      generalize l[k].m = M at *
      generalize l[k].x = X at *
      generalize l[k].y = Y at *
      generalize l[k].i = I at *
      generalize cmass (l.take k) = S0 at *
      generalize cin cx cy (l.take k) = S4 at *
      go_upto_region 7 with fail
      refine wp_named ?_
      intro V hV
      have kP : blk V wr.heap.size #[.int .i64 M, .int .i64 X, .int .i64 Y, .int .i64 I] 49 := by rw [hV]; exact bBkn
      have kR2 : blk V w.heap.size #[.int .i64 0, .int .i64 0, .int .i64 0, .int .i64 0] 49 := by rw [hV]; exact (by apply blk_of; (repeat (first | with_reducible exact kR | with_reducible apply blk_drew | with_reducible apply blk_gw | with_reducible apply blk_alloc | with_reducible apply blk_set | ((with_reducible apply blk_other); focus omega))); (first | rfl | simp))
      have kO2 : blk V B #[.int .i64 S0, .int .i64 cx, .int .i64 cy, .int .i64 S4] 49 := by rw [hV]; exact (by apply blk_of; (repeat (first | with_reducible exact kO | with_reducible apply blk_drew | with_reducible apply blk_gw | with_reducible apply blk_alloc | with_reducible apply blk_set | ((with_reducible apply blk_other); focus omega))); (first | rfl | simp))
      have hbV : Below w.heap.size w V := by rw [hV]; exact bBel
      have hltP : wr.heap.size < V.heap.size := blk_lt kP
      clear hV kR kO okR okO ckR_0 ckR_1 ckR_2 ckR_3 fkR_0 fkR_1 fkR_2 fkR_3 ckO_0 ckO_1 ckO_2 ckO_3 fkO_0 fkO_1 fkO_2 fkO_3 d0 d1 d2 d3 od hbw
      generalize wr.heap.size = P at *
      clear wr
      have hszV := hbV.size
      have okP := blk_older kP
      have ckP_0 : _ = some _ := blk_cell kP 0
      have ckP_1 : _ = some _ := blk_cell kP 1
      have ckP_2 : _ = some _ := blk_cell kP 2
      have ckP_3 : _ = some _ := blk_cell kP 3
      have fkP_0 := blk_free kP 0
      have fkP_1 := blk_free kP 1
      have fkP_2 := blk_free kP 2
      have fkP_3 := blk_free kP 3
      have okR2 := blk_older kR2
      have ckR2_0 : _ = some _ := blk_cell kR2 0
      have ckR2_1 : _ = some _ := blk_cell kR2 1
      have ckR2_2 : _ = some _ := blk_cell kR2 2
      have ckR2_3 : _ = some _ := blk_cell kR2 3
      have fkR2_0 := blk_free kR2 0
      have fkR2_1 := blk_free kR2 1
      have fkR2_2 := blk_free kR2 2
      have fkR2_3 := blk_free kR2 3
      have okO2 := blk_older kO2
      have ckO2_0 : _ = some _ := blk_cell kO2 0
      have ckO2_1 : _ = some _ := blk_cell kO2 1
      have ckO2_2 : _ = some _ := blk_cell kO2 2
      have ckO2_3 : _ = some _ := blk_cell kO2 3
      have fkO2_0 := blk_free kO2 0
      have fkO2_1 := blk_free kO2 1
      have fkO2_2 := blk_free kO2 2
      have fkO2_3 := blk_free kO2 3
      go_upto_region 8 with (go_at_call 97; refine Calls.mono (gw_at (vsub_b _ _ _ _ _)) ?_; rintro e w1 ⟨rfl, q, rfl⟩)
      refine wp_named ?_
      intro U hU
      have kD : blk U (V.heap.size + q.os.size) #[.int .i64 (sub X cx), .int .i64 (sub Y cy)] 24 := by rw [hU]; exact bBkn
      have kP2 : blk U P #[.int .i64 M, .int .i64 X, .int .i64 Y, .int .i64 I] 49 := by rw [hU]; exact (by apply blk_of; (repeat (first | with_reducible exact kP | with_reducible apply blk_drew | with_reducible apply blk_gw | with_reducible apply blk_alloc | with_reducible apply blk_set | ((with_reducible apply blk_other); focus omega))); (first | rfl | simp))
      have kR3 : blk U w.heap.size #[.int .i64 0, .int .i64 0, .int .i64 0, .int .i64 0] 49 := by rw [hU]; exact (by apply blk_of; (repeat (first | with_reducible exact kR2 | with_reducible apply blk_drew | with_reducible apply blk_gw | with_reducible apply blk_alloc | with_reducible apply blk_set | ((with_reducible apply blk_other); focus omega))); (first | rfl | simp))
      have kO3 : blk U B #[.int .i64 S0, .int .i64 cx, .int .i64 cy, .int .i64 S4] 49 := by rw [hU]; exact (by apply blk_of; (repeat (first | with_reducible exact kO2 | with_reducible apply blk_drew | with_reducible apply blk_gw | with_reducible apply blk_alloc | with_reducible apply blk_set | ((with_reducible apply blk_other); focus omega))); (first | rfl | simp))
      have hbU : Below w.heap.size w U := by rw [hU]; exact bBel
      have hPD : P < V.heap.size + q.os.size := by omega
      clear hU kP kR2 kO2 okP okR2 okO2 ckP_0 ckP_1 ckP_2 ckP_3 fkP_0 fkP_1 fkP_2 fkP_3 ckR2_0 ckR2_1 ckR2_2 ckR2_3 fkR2_0 fkR2_1 fkR2_2 fkR2_3 ckO2_0 ckO2_1 ckO2_2 ckO2_3 fkO2_0 fkO2_1 fkO2_2 fkO2_3 hbV hszV hltP
      generalize V.heap.size + q.os.size = Dn at *
      clear V
      have hszU := hbU.size
      have okD := blk_older kD
      have ckD_0 : _ = some _ := blk_cell kD 0
      have ckD_1 : _ = some _ := blk_cell kD 1
      have fkD_0 := blk_free kD 0
      have fkD_1 := blk_free kD 1
      have okP2 := blk_older kP2
      have ckP2_0 : _ = some _ := blk_cell kP2 0
      have ckP2_1 : _ = some _ := blk_cell kP2 1
      have ckP2_2 : _ = some _ := blk_cell kP2 2
      have ckP2_3 : _ = some _ := blk_cell kP2 3
      have fkP2_0 := blk_free kP2 0
      have fkP2_1 := blk_free kP2 1
      have fkP2_2 := blk_free kP2 2
      have fkP2_3 := blk_free kP2 3
      have okR3 := blk_older kR3
      have ckR3_0 : _ = some _ := blk_cell kR3 0
      have ckR3_1 : _ = some _ := blk_cell kR3 1
      have ckR3_2 : _ = some _ := blk_cell kR3 2
      have ckR3_3 : _ = some _ := blk_cell kR3 3
      have fkR3_0 := blk_free kR3 0
      have fkR3_1 := blk_free kR3 1
      have fkR3_2 := blk_free kR3 2
      have fkR3_3 := blk_free kR3 3
      have okO3 := blk_older kO3
      have ckO3_0 : _ = some _ := blk_cell kO3 0
      have ckO3_1 : _ = some _ := blk_cell kO3 1
      have ckO3_2 : _ = some _ := blk_cell kO3 2
      have ckO3_3 : _ = some _ := blk_cell kO3 3
      have fkO3_0 := blk_free kO3 0
      have fkO3_1 := blk_free kO3 1
      have fkO3_2 := blk_free kO3 2
      have fkO3_3 := blk_free kO3 3
      go_upto_region 9 with (go_at_call 150; refine Calls.mono (gw_at (add_b _ _ _)) ?_; rintro e w1 ⟨rfl, q, rfl⟩)
      refine wp_named ?_
      intro T hT
      have kD2 : blk T Dn #[.int .i64 (sub X cx), .int .i64 (sub Y cy)] 24 := by rw [hT]; exact (by apply blk_of; (repeat (first | with_reducible exact kD | with_reducible apply blk_drew | with_reducible apply blk_gw | with_reducible apply blk_alloc | with_reducible apply blk_set | ((with_reducible apply blk_other); focus omega))); (first | rfl | simp))
      have kP3 : blk T P #[.int .i64 M, .int .i64 X, .int .i64 Y, .int .i64 I] 49 := by rw [hT]; exact (by apply blk_of; (repeat (first | with_reducible exact kP2 | with_reducible apply blk_drew | with_reducible apply blk_gw | with_reducible apply blk_alloc | with_reducible apply blk_set | ((with_reducible apply blk_other); focus omega))); (first | rfl | simp))
      have kR4 : blk T w.heap.size #[.int .i64 0, .int .i64 0, .int .i64 0, .int .i64 0] 49 := by rw [hT]; exact (by apply blk_of; (repeat (first | with_reducible exact kR3 | with_reducible apply blk_drew | with_reducible apply blk_gw | with_reducible apply blk_alloc | with_reducible apply blk_set | ((with_reducible apply blk_other); focus omega))); (first | rfl | simp))
      have kO4 : blk T B #[.int .i64 (add S0 M), .int .i64 cx, .int .i64 cy, .int .i64 S4] 49 := by rw [hT]; exact (by apply blk_of; (repeat (first | with_reducible exact kO3 | with_reducible apply blk_drew | with_reducible apply blk_gw | with_reducible apply blk_alloc | with_reducible apply blk_set | ((with_reducible apply blk_other); focus omega))); (first | rfl | simp))
      have hbT : Below w.heap.size w T := by rw [hT]; exact bBel
      clear hT kD kP2 kR3 kO3 okD okP2 okR3 okO3 ckD_0 ckD_1 fkD_0 fkD_1 ckP2_0 ckP2_1 ckP2_2 ckP2_3 fkP2_0 fkP2_1 fkP2_2 fkP2_3 ckR3_0 ckR3_1 ckR3_2 ckR3_3 fkR3_0 fkR3_1 fkR3_2 fkR3_3 ckO3_0 ckO3_1 ckO3_2 ckO3_3 fkO3_0 fkO3_1 fkO3_2 fkO3_3 hbU hszU
      have hszT := hbT.size
      have okD2 := blk_older kD2
      have ckD2_0 : _ = some _ := blk_cell kD2 0
      have ckD2_1 : _ = some _ := blk_cell kD2 1
      have fkD2_0 := blk_free kD2 0
      have fkD2_1 := blk_free kD2 1
      have okP3 := blk_older kP3
      have ckP3_0 : _ = some _ := blk_cell kP3 0
      have ckP3_1 : _ = some _ := blk_cell kP3 1
      have ckP3_2 : _ = some _ := blk_cell kP3 2
      have ckP3_3 : _ = some _ := blk_cell kP3 3
      have fkP3_0 := blk_free kP3 0
      have fkP3_1 := blk_free kP3 1
      have fkP3_2 := blk_free kP3 2
      have fkP3_3 := blk_free kP3 3
      have okR4 := blk_older kR4
      have ckR4_0 : _ = some _ := blk_cell kR4 0
      have ckR4_1 : _ = some _ := blk_cell kR4 1
      have ckR4_2 : _ = some _ := blk_cell kR4 2
      have ckR4_3 : _ = some _ := blk_cell kR4 3
      have fkR4_0 := blk_free kR4 0
      have fkR4_1 := blk_free kR4 1
      have fkR4_2 := blk_free kR4 2
      have fkR4_3 := blk_free kR4 3
      have okO4 := blk_older kO4
      have ckO4_0 : _ = some _ := blk_cell kO4 0
      have ckO4_1 : _ = some _ := blk_cell kO4 1
      have ckO4_2 : _ = some _ := blk_cell kO4 2
      have ckO4_3 : _ = some _ := blk_cell kO4 3
      have fkO4_0 := blk_free kO4 0
      have fkO4_1 := blk_free kO4 1
      have fkO4_2 := blk_free kO4 2
      have fkO4_3 := blk_free kO4 3
      go_upto_region 10 with (go_at_call 150; refine Calls.mono (gw_at (add_b _ _ _)) ?_; rintro e w1 ⟨rfl, q, rfl⟩)
      refine wp_named ?_
      intro Y9 hY9
      have kD3 : blk Y9 Dn #[.int .i64 (sub X cx), .int .i64 (sub Y cy)] 24 := by rw [hY9]; exact (by apply blk_of; (repeat (first | with_reducible exact kD2 | with_reducible apply blk_drew | with_reducible apply blk_gw | with_reducible apply blk_alloc | with_reducible apply blk_set | ((with_reducible apply blk_other); focus omega))); (first | rfl | simp))
      have kP4 : blk Y9 P #[.int .i64 M, .int .i64 X, .int .i64 Y, .int .i64 I] 49 := by rw [hY9]; exact (by apply blk_of; (repeat (first | with_reducible exact kP3 | with_reducible apply blk_drew | with_reducible apply blk_gw | with_reducible apply blk_alloc | with_reducible apply blk_set | ((with_reducible apply blk_other); focus omega))); (first | rfl | simp))
      have kR5 : blk Y9 w.heap.size #[.int .i64 0, .int .i64 0, .int .i64 0, .int .i64 0] 49 := by rw [hY9]; exact (by apply blk_of; (repeat (first | with_reducible exact kR4 | with_reducible apply blk_drew | with_reducible apply blk_gw | with_reducible apply blk_alloc | with_reducible apply blk_set | ((with_reducible apply blk_other); focus omega))); (first | rfl | simp))
      have kO5 : blk Y9 B #[.int .i64 (add S0 M), .int .i64 cx, .int .i64 cy, .int .i64 (add S4 I)] 49 := by rw [hY9]; exact (by apply blk_of; (repeat (first | with_reducible exact kO4 | with_reducible apply blk_drew | with_reducible apply blk_gw | with_reducible apply blk_alloc | with_reducible apply blk_set | ((with_reducible apply blk_other); focus omega))); (first | rfl | simp))
      have hbY : Below w.heap.size w Y9 := by rw [hY9]; exact bBel
      clear hY9 kD2 kP3 kR4 kO4 okD2 okP3 okR4 okO4 ckD2_0 ckD2_1 fkD2_0 fkD2_1 ckP3_0 ckP3_1 ckP3_2 ckP3_3 fkP3_0 fkP3_1 fkP3_2 fkP3_3 ckR4_0 ckR4_1 ckR4_2 ckR4_3 fkR4_0 fkR4_1 fkR4_2 fkR4_3 ckO4_0 ckO4_1 ckO4_2 ckO4_3 fkO4_0 fkO4_1 fkO4_2 fkO4_3 hbT hszT
      have hszY := hbY.size
      have okD3 := blk_older kD3
      have ckD3_0 : _ = some _ := blk_cell kD3 0
      have ckD3_1 : _ = some _ := blk_cell kD3 1
      have fkD3_0 := blk_free kD3 0
      have fkD3_1 := blk_free kD3 1
      have okP4 := blk_older kP4
      have ckP4_0 : _ = some _ := blk_cell kP4 0
      have ckP4_1 : _ = some _ := blk_cell kP4 1
      have ckP4_2 : _ = some _ := blk_cell kP4 2
      have ckP4_3 : _ = some _ := blk_cell kP4 3
      have fkP4_0 := blk_free kP4 0
      have fkP4_1 := blk_free kP4 1
      have fkP4_2 := blk_free kP4 2
      have fkP4_3 := blk_free kP4 3
      have okR5 := blk_older kR5
      have ckR5_0 : _ = some _ := blk_cell kR5 0
      have ckR5_1 : _ = some _ := blk_cell kR5 1
      have ckR5_2 : _ = some _ := blk_cell kR5 2
      have ckR5_3 : _ = some _ := blk_cell kR5 3
      have fkR5_0 := blk_free kR5 0
      have fkR5_1 := blk_free kR5 1
      have fkR5_2 := blk_free kR5 2
      have fkR5_3 := blk_free kR5 3
      have okO5 := blk_older kO5
      have ckO5_0 : _ = some _ := blk_cell kO5 0
      have ckO5_1 : _ = some _ := blk_cell kO5 1
      have ckO5_2 : _ = some _ := blk_cell kO5 2
      have ckO5_3 : _ = some _ := blk_cell kO5 3
      have fkO5_0 := blk_free kO5 0
      have fkO5_1 := blk_free kO5 1
      have fkO5_2 := blk_free kO5 2
      have fkO5_3 := blk_free kO5 3
      refine wp_region_gw_tail 10 (by kernel_rfl) (by kernel_rfl) ?_
      simp only [List.take_succ_cons, List.take_zero, List.drop_succ_cons, List.drop_zero]
      repeat (go_big_quiet_step ((first | (go_at_call 97; exact gw_call (vsub_b _ _ _ _ _)) | (go_at_call 150; exact gw_call (add_b _ _ _)) | (go_at_call 195; exact gw_call (dot_b _ _ _ _ _)) | (go_at_call 151; exact gw_call (mul_b _ _ _)))))
      refine wpQuiet_nil ?_
      intro w1 hw1
      obtain ⟨q, rfl⟩ := hw1
      go_wp2_with fail
      exact ⟨⟨k + 1, by omega, by go_num, (by apply blk_of; (repeat (first | with_reducible exact kR5 | with_reducible apply blk_drew | with_reducible apply blk_gw | with_reducible apply blk_alloc | with_reducible apply blk_set | ((with_reducible apply blk_other); focus omega))); (first | rfl | simp)), by rw [g0.out, g4.out]; exact (by apply blk_of; (repeat (first | with_reducible exact kO5 | with_reducible apply blk_drew | with_reducible apply blk_gw | with_reducible apply blk_alloc | with_reducible apply blk_set | ((with_reducible apply blk_other); focus omega))); (first | rfl | simp)), bBel⟩, by (try go_num); simp [intOf]; (try omega)⟩
    · obtain rfl : k = l.length := by omega
      have j1 : ¬ (l.length : Int) < (l.length : Int) := by omega
      rw [e0, e4] at kO
      rw [e0] at ckO_0
      rw [e4] at ckO_3
      clear f0 f4 z0 z4 e0 e4
      go_wp2_with fail
      refine post_named ?_
      intro Z hZ
      have kZ : blk Z w.heap.size #[.int .i64 (cmass l), .int .i64 cx, .int .i64 cy, .int .i64 (cin cx cy l)] 49 := by rw [hZ]; exact (by apply blk_of; (repeat (first | with_reducible exact kR | with_reducible apply blk_drew | with_reducible apply blk_gw | with_reducible apply blk_alloc | with_reducible apply blk_set | ((with_reducible apply blk_other); focus omega))); (first | rfl | simp))
      have hbZ : Below w.heap.size w Z := by rw [hZ]; exact bBel
      clear hZ
      have okZ := blk_older kZ
      have ckZ_0 : _ = some _ := blk_cell kZ 0
      have ckZ_1 : _ = some _ := blk_cell kZ 1
      have ckZ_2 : _ = some _ := blk_cell kZ 2
      have ckZ_3 : _ = some _ := blk_cell kZ 3
      have fkZ_0 := blk_free kZ 0
      have fkZ_1 := blk_free kZ 1
      have fkZ_2 := blk_free kZ 2
      have fkZ_3 := blk_free kZ 3
      exact bodyPost_ret (v := .agg #[.int .i64 (cmass l), .int .i64 cx, .int .i64 cy, .int .i64 (cin cx cy l)]) (by simp [results, Tryz.results141, go_sem, ckZ_0, ckZ_1, ckZ_2, ckZ_3]) rfl ⟨rfl, hbZ⟩

end Go.Proofs.YtdmcdicphohlfaaGreat

set_option linter.unusedVariables false
namespace Go.Proofs.YtdmcdicphohlfaaGreat
open Go.RowKit Fx

theorem fxs_all {w : World} {A : Option Addr} {fs : List Fxr} (h : Fxs w A fs) (h0 : 0 < fs.length) : ∃ b off, A = some ⟨b, off, none⟩ ∧ ∀ i (h : i < fs.length), Pts w fs[i].A fs[i].ps ∧ fs[i].ps.length ≤ fs[i].cap ∧ ∀ w', Below w.heap.size w w' → w'.cell? ⟨b, off + i * 10, none⟩ = some (.int .i64 fs[i].K) ∧ w'.cell? ⟨b, off + i * 10 + 1, none⟩ = some (.int .i64 fs[i].R) ∧ w'.cell? ⟨b, off + i * 10 + 2, none⟩ = some (.slice fs[i].A fs[i].ps.length fs[i].cap) ∧ w'.cell? ⟨b, off + i * 10 + 3, none⟩ = some (.int .i64 fs[i].D) ∧ w'.cell? ⟨b, off + i * 10 + 4, none⟩ = some (.int .i64 fs[i].F) ∧ w'.cell? ⟨b, off + i * 10 + 5, none⟩ = some (.int .i64 fs[i].E) ∧ w'.cell? ⟨b, off + i * 10 + 6, none⟩ = some (.bool fs[i].sen) ∧ w'.cell? ⟨b, off + i * 10 + 7, none⟩ = some (.int .i64 fs[i].cat) ∧ w'.cell? ⟨b, off + i * 10 + 8, none⟩ = some (.int .i64 fs[i].msk) ∧ w'.cell? ⟨b, off + i * 10 + 9, none⟩ = some (.int .i64 fs[i].grp) := by
  rcases h with h | ⟨b, off, rfl, hc⟩
  · rw [h] at h0; simp at h0
  · refine ⟨b, off, rfl, fun i hi => ?_⟩
    obtain ⟨cs, _, k, rfl, hp, _, hle, _⟩ := hc i hi
    refine ⟨hp, hle, fun w' hb => ?_⟩
    have k0 := k 0 (by decide)
    have hlt := World.block_lt_of_cell? w ⟨b, off + i * 10 + 0, none⟩ (show _ = some (Value.int .i64 fs[i].K) from k0)
    exact ⟨(hb.cell (p := ⟨b, off + i * 10 + 0, none⟩) hlt).trans k0, (hb.cell (p := ⟨b, off + i * 10 + 1, none⟩) hlt).trans (k 1 (by decide)), (hb.cell (p := ⟨b, off + i * 10 + 2, none⟩) hlt).trans (k 2 (by decide)), (hb.cell (p := ⟨b, off + i * 10 + 3, none⟩) hlt).trans (k 3 (by decide)), (hb.cell (p := ⟨b, off + i * 10 + 4, none⟩) hlt).trans (k 4 (by decide)), (hb.cell (p := ⟨b, off + i * 10 + 5, none⟩) hlt).trans (k 5 (by decide)), (hb.cell (p := ⟨b, off + i * 10 + 6, none⟩) hlt).trans (k 6 (by decide)), (hb.cell (p := ⟨b, off + i * 10 + 7, none⟩) hlt).trans (k 7 (by decide)), (hb.cell (p := ⟨b, off + i * 10 + 8, none⟩) hlt).trans (k 8 (by decide)), (hb.cell (p := ⟨b, off + i * 10 + 9, none⟩) hlt).trans (k 9 (by decide))⟩

set_option maxRecDepth 100000 in
set_option maxHeartbeats 16000000 in
theorem yoff_b (A : Option Addr) (cap : Nat) (fs : List Fxr) (hl : fs.length ≤ 1000000) (hv : ∀ f ∈ fs, f.ps.length ≤ 1000000) (w : World) (ha : Fxs w A fs) : Calls Tryz.prog 68 #[.slice A fs.length cap] w fun e w' => e = .returned (.agg #[.int .i64 (ofF fs).m, .int .i64 (ofF fs).x, .int .i64 (ofF fs).y, .int .i64 (ofF fs).i]) ∧ Below w.heap.size w w' := by
  obtain ⟨i0, hi, hz0, hz1, hz2⟩ := info_parts info_md
  by_cases h4 : 4 < fs.length
  focus
    have e : ofF fs = Md.zero := if_pos h4
    have i4 : (4 : Int) < (fs.length : Int) := by omega
    rw [e]
    clear e h4
    go_enter Tryz.func68, Tryz.ntmps68
    go_wp2_with fail
    refine post_named ?_
    intro Z hZ
    have kZ : blk Z w.heap.size #[.int .i64 0, .int .i64 0, .int .i64 0, .int .i64 0] 49 := by rw [hZ]; exact bBkn
    have hbZ : Below w.heap.size w Z := by rw [hZ]; exact bBel
    clear hZ
    have okZ := blk_older kZ
    have ckZ_0 : _ = some _ := blk_cell kZ 0
    have ckZ_1 : _ = some _ := blk_cell kZ 1
    have ckZ_2 : _ = some _ := blk_cell kZ 2
    have ckZ_3 : _ = some _ := blk_cell kZ 3
    have fkZ_0 := blk_free kZ 0
    have fkZ_1 := blk_free kZ 1
    have fkZ_2 := blk_free kZ 2
    have fkZ_3 := blk_free kZ 3
    exact bodyPost_ret (v := .agg #[.int .i64 0, .int .i64 0, .int .i64 0, .int .i64 0]) (by simp [results, Tryz.results68, go_sem, ckZ_0, ckZ_1, ckZ_2, ckZ_3]) rfl ⟨rfl, hbZ⟩
  have i4 : ¬ (4 : Int) < (fs.length : Int) := by omega
  have e : ofF fs = comb (prt fs) := if_neg h4
  rw [e]
  have cC := fun (A1 : Option Addr) (c1 : Nat) w' h => ycomb_b A1 c1 (prt fs) (by have := prt_len fs fs.length; rw [List.take_length] at this; omega) w' h
  have hpt : ∀ k (h : k < fs.length), Hid (prt (fs.take (k + 1)) = if fs[k].sen then prt (fs.take k) else prt (fs.take k) ++ [ofS fs[k].K fs[k].R fs[k].ps fs[k].D]) := fun k h => prt_take h
  have hpl := prt_len fs
  clear e
  go_enter Tryz.func68, Tryz.ntmps68
  go_wp2_with fail
  refine wp_named ?_
  intro W hW
  have kR : blk W w.heap.size #[.int .i64 0, .int .i64 0, .int .i64 0, .int .i64 0] 49 := by rw [hW]; exact bBkn
  have hbW : Below w.heap.size w W := by rw [hW]; exact bBel
  clear hW
  have hszW := hbW.size
  have hF : Fxs W A fs := Fxs.to ha hbW
  go_loopw [3, 12] (fun o i wr => ∃ (k n : Nat), k ≤ fs.length ∧ i = .int .i64 (k : Int) ∧ wr.ownsRow W.heap.size 49 4 o n ((prt (fs.take k)).flatMap mdc) ∧ n ≤ k ∧ Below W.heap.size W wr)
    (fun _ i _ => (fs.length - intOf i).toNat)
  case atStart => exact ⟨0, 0, by omega, rfl, World.ownsRow_nil _ _ _ 4, by omega, Below.refl _ _⟩
  case round =>
    obtain ⟨k, n, hk, rfl, hown, hnk, hbR⟩ := hrel
    have hszR := hbR.size
    have hbWR : Below w.heap.size w wr := Below.trans hbW (hbR.mono hszW)
    have kR1 := blk_to kR hbR
    have okR1 := blk_older kR1
    have ckR1_0 : _ = some _ := blk_cell kR1 0
    have ckR1_1 : _ = some _ := blk_cell kR1 1
    have ckR1_2 : _ = some _ := blk_cell kR1 2
    have ckR1_3 : _ = some _ := blk_cell kR1 3
    have fkR1_0 := blk_free kR1 0
    have fkR1_1 := blk_free kR1 1
    have fkR1_2 := blk_free kR1 2
    have fkR1_3 := blk_free kR1 3
    by_cases hlt : k < fs.length
    · have j0 : (0 : Int) ≤ (k : Int) := by omega
      have j1 : (k : Int) < (fs.length : Int) := by omega
      obtain ⟨b2, off2, hA2, hc2⟩ := fxs_all hF (by omega)
      subst hA2
      obtain ⟨hP, hck, hc3⟩ := hc2 k hlt
      obtain ⟨d0, d1, d2, d3, d4, d5, d6, d7, d8, d9⟩ := hc3 _ hbR
      have od := older_of_cell d0
      have hs := hpt k hlt
      have hpk := hpl (k + 1)
      have hvk := hv _ (List.getElem_mem hlt)
      clear hc2 hc3 hpt hv cC
      generalize fs[k].K = K at *
      generalize fs[k].R = R at *
      generalize fs[k].A = SA at *
      generalize fs[k].cap = scap at *
      generalize fs[k].ps = ps at *
      generalize fs[k].D = D at *
      generalize fs[k].sen = sen at *
      generalize fs[k].F = F at *
      generalize fs[k].E = E at *
      generalize fs[k].cat = cat at *
      generalize fs[k].msk = msk at *
      generalize fs[k].grp = grp at *
      have cO := fun w' h => yofs_b K R SA scap ps D (by omega) w' h hck
      generalize ofS K R ps D = P at *
      cases sen
      · have hs2 := hs.out
        rw [if_neg (by decide)] at hs2
        have hs3 : Hid _ := hs2
        clear hs hs2
        go_wp2_with fail
        go_wp2_with (first | (go_at_call 140; refine Calls.mono (gw_at (cO _ (Pts.to hP bBel))) ?_; rintro e w1 ⟨rfl, q, rfl⟩) | (at_builtin; refine wpList_appM rfl _ _ 146 rfl W.heap.size 49 i0 (.agg #[.int .i64 0, .int .i64 0, .int .i64 0, .int .i64 0]) 4 32 Tryz.underlying146 hi hz0 hz1 hz2 rfl (by decide) _ _ _ rfl (owns_below hown bBel) _ (mdc P) 49 rfl rfl (by show blk _ _ #[.int .i64 P.m, .int .i64 P.x, .int .i64 P.y, .int .i64 P.i] _; exact bBkn) (fun u hu => by simp [mdc] at hu; rcases hu with rfl | rfl | rfl | rfl <;> rfl) (by unfold maxLen; omega) (by omega) (by first | (simp; omega) | omega) ?_; intro v' w2 hown2 hb2))
        exact ⟨⟨k + 1, n + 1, by omega, by go_num, by rw [hs3.out, List.flatMap_append]; simpa using hown2, by omega, Below.trans hbR (Below.trans bBel hb2)⟩, by (try go_num); simp [intOf]; (try omega)⟩
      · have hs2 := hs.out
        rw [if_pos (by rfl)] at hs2
        have hs3 : Hid _ := hs2
        clear hs hs2
        go_wp2_with fail
        exact ⟨⟨k + 1, n, by omega, by go_num, by rw [hs3.out]; exact owns_below hown bBel, by omega, bBel⟩, by (try go_num); simp [intOf]; (try omega)⟩
    · obtain rfl : k = fs.length := by omega
      have j1 : ¬ (fs.length : Int) < (fs.length : Int) := by omega
      rw [List.take_length] at hown
      obtain ⟨A5, c5, rfl, rfl, hle5, hmx5, hP5, hnil5⟩ := owns_els (c := mdc) (sz := 4) (fun f => rfl) (by decide) hown
      clear hpt hv hown hpl
      go_wp2_with (go_at_call 141; refine Calls.mono (gw_at (cC _ _ _ (Mds.to hP5 bBel))) ?_; rintro e w1 ⟨rfl, q, rfl⟩)
      refine post_named ?_
      intro Z hZ
      have kZ : blk Z w.heap.size #[.int .i64 (comb (prt fs)).m, .int .i64 (comb (prt fs)).x, .int .i64 (comb (prt fs)).y, .int .i64 (comb (prt fs)).i] 49 := by rw [hZ]; exact (by apply blk_of; (repeat (first | with_reducible exact kR1 | with_reducible apply blk_drew | with_reducible apply blk_gw | with_reducible apply blk_alloc | with_reducible apply blk_set | ((with_reducible apply blk_other); focus omega))); (first | rfl | simp))
      have hbZ : Below w.heap.size w Z := by rw [hZ]; exact bBel
      clear hZ
      have okZ := blk_older kZ
      have ckZ_0 : _ = some _ := blk_cell kZ 0
      have ckZ_1 : _ = some _ := blk_cell kZ 1
      have ckZ_2 : _ = some _ := blk_cell kZ 2
      have ckZ_3 : _ = some _ := blk_cell kZ 3
      have fkZ_0 := blk_free kZ 0
      have fkZ_1 := blk_free kZ 1
      have fkZ_2 := blk_free kZ 2
      have fkZ_3 := blk_free kZ 3
      exact bodyPost_ret (v := .agg #[.int .i64 (comb (prt fs)).m, .int .i64 (comb (prt fs)).x, .int .i64 (comb (prt fs)).y, .int .i64 (comb (prt fs)).i]) (by simp [results, Tryz.results68, go_sem, ckZ_0, ckZ_1, ckZ_2, ckZ_3]) rfl ⟨rfl, hbZ⟩

end Go.Proofs.YtdmcdicphohlfaaGreat
