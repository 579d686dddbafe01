/- Package polygon, the landed code: fanSums, Area, Centroid. -/
import Derived.Test.YtncijpaooiopfaaPga
set_option linter.unusedVariables false
namespace Go.Proofs.Ytncijpaooiopfaa
open Go.RowKit Fx

theorem sub_inr {a b : Int} (ha : -1048576 ≤ a ∧ a ≤ 1048576) (hb : -1048576 ≤ b ∧ b ≤ 1048576) : sub a b = a - b := by
  unfold sub; rw [inr_sat ha.1 ha.2, inr_sat hb.1 hb.2]; exact sat_id (by omega) (by omega)
theorem cross_crs {ps : List Pt} (h0 : 0 < ps.length) (hin : ∀ p ∈ ps, inrP p) (i : Nat) : cross ((hp' ps i).1 - (hp' ps 0).1) ((hp' ps i).2 - (hp' ps 0).2) ((hp' ps (i + 1)).1 - (hp' ps 0).1) ((hp' ps (i + 1)).2 - (hp' ps 0).2) = crs ps i := by
  have hc := crs_in h0 hin i
  have a := hin _ (hp_mem (h := ps) 0 h0); have b := hin _ (hp_mem (h := ps) i h0); have c := hin _ (hp_mem (h := ps) (i + 1) h0)
  unfold inrP at a b c
  unfold cross
  rw [sat_id (x := (hp' ps i).1 - (hp' ps 0).1) (by omega) (by omega), sat_id (x := (hp' ps i).2 - (hp' ps 0).2) (by omega) (by omega), sat_id (x := (hp' ps (i + 1)).1 - (hp' ps 0).1) (by omega) (by omega), sat_id (x := (hp' ps (i + 1)).2 - (hp' ps 0).2) (by omega) (by omega)]
  show sat (crs ps i) = _
  exact sat_id (by omega) (by omega)

set_option maxRecDepth 100000 in
set_option maxHeartbeats 16000000 in
theorem xfan_b (A : Option Addr) (cap : Nat) (ps : List (Int × Int)) (n3 : 3 ≤ ps.length) (n8 : ps.length ≤ 8) (hin : ∀ p ∈ ps, inrP p) (w : World) (ha : Pts w A ps) : Calls Try.prog 38 #[.slice A ps.length cap] w fun e w' => e = .returned (.tuple #[.int .i64 (crsS ps (ps.length - 2)), .agg #[.int .i64 (cenX ps (ps.length - 2)), .int .i64 (cenY ps (ps.length - 2))]]) ∧ Below w.heap.size w w' := by
  have hin2 : Hid (∀ p ∈ ps, inrP p) := hin
  have n3' : (3 : Int) ≤ (ps.length : Int) := by omega
  have n8' : (ps.length : Int) ≤ 8 := by omega
  have n0 : (0 : Int) < (ps.length : Int) := by omega
  obtain ⟨b, off, rfl, hc0⟩ := pts_open0 ha (by omega)
  have ia := hin _ (List.getElem_mem (show 0 < ps.length by omega))
  unfold inrP at ia
  obtain ⟨ia1, ia2, ia3, ia4⟩ := ia
  obtain ⟨x0, hx0⟩ : ∃ x, Hid (ps[0].1 = x) := ⟨ps[0].1, rfl⟩
  obtain ⟨y0, hy0⟩ : ∃ x, Hid (ps[0].2 = x) := ⟨ps[0].2, rfl⟩
  rw [hx0.out] at ia1 ia2
  rw [hy0.out] at ia3 ia4
  clear hin hc0
  obtain ⟨S, hS0⟩ : ∃ x, Hid (crsS ps (ps.length - 2) = x) := ⟨_, rfl⟩
  obtain ⟨SX, hX0⟩ : ∃ x, Hid (cenX ps (ps.length - 2) = x) := ⟨_, rfl⟩
  obtain ⟨SY, hY0⟩ : ∃ x, Hid (cenY ps (ps.length - 2) = x) := ⟨_, rfl⟩
  rw [hS0.out, hX0.out, hY0.out]
  go_enter Try.func38, Try.ntmps38
  go_upto_region 3 with fail
  refine wp_named ?_
  intro W hW
  have kR : blk W w.heap.size #[.int .i64 0, .int .i64 0] 27 := by rw [hW]; exact (by repeat (first | with_reducible exact blk_new _ _ _ | ((with_reducible refine blk_at ?_); (simp; done)) | with_reducible apply blk_alloc | with_reducible apply blk_gw | with_reducible apply blk_drew))
  have kM : blk W (w.heap.size + 1) #[.int .i64 0, .int .i64 0] 27 := by rw [hW]; exact (by repeat (first | with_reducible exact blk_new _ _ _ | ((with_reducible refine blk_at ?_); (simp; done)) | with_reducible apply blk_alloc | with_reducible apply blk_gw | with_reducible apply blk_drew))
  have hbW : Below w.heap.size w W := by rw [hW]; exact (by repeat (first | with_reducible exact Below.refl _ _ | with_reducible assumption | refine bgw ?_ (by first | (simp; done) | (simp; omega) | omega) _ | refine Below.setCell ?_ (by first | exact Nat.le_of_not_lt (by assumption) | (simp; done) | (simp; omega) | omega) _ | refine Below.alloc ?_ (by first | (simp; done) | (simp; omega) | omega) _ | refine Below.drew ?_))
  clear hW
  have hlM : w.heap.size < w.heap.size + 1 := by omega
  generalize w.heap.size + 1 = M at *
  go_wp2_with fail
  go_loopw [4, 6] (fun s i wr => ∃ j : Nat, 1 ≤ j ∧ j + 1 ≤ ps.length ∧ s = .int .i64 (crsS ps (j - 1)) ∧ i = .int .i64 ((j : Int) + 1) ∧ blk wr M #[.int .i64 (cenX ps (j - 1)), .int .i64 (cenY ps (j - 1))] 27 ∧ blk wr w.heap.size #[.int .i64 0, .int .i64 0] 27 ∧ Below w.heap.size w wr)
    (fun _ i _ => (ps.length - intOf i).toNat)
  case atStart => exact ⟨1, by omega, by omega, rfl, rfl, kM, kR, hbW⟩
  case round =>
    obtain ⟨j, hj1, hj, rfl, rfl, kM, kR, hbR⟩ := hrel
    have hszR := hbR.size
    have hs := crsS_in (ps := ps) (by omega) hin2.out (j - 1)
    obtain ⟨hcx, hcy⟩ := cen_in (ps := ps) (by omega) hin2.out (j - 1)
    have j8 : ((j - 1 : Nat) : Int) ≤ 8 := by omega
    have okM := blk_older kM
    have ckM_0 : _ = some _ := blk_cell kM 0
    have ckM_1 : _ = some _ := blk_cell kM 1
    have fkM_0 := blk_free kM 0
    have fkM_1 := blk_free kM 1
    have okR := blk_older kR
    have ckR_0 : _ = some _ := blk_cell kR 0
    have ckR_1 : _ = some _ := blk_cell kR 1
    have fkR_0 := blk_free kR 0
    have fkR_1 := blk_free kR 1
    by_cases hlt : j + 1 < ps.length
    · have i0 : (0 : Int) ≤ (j : Int) := by omega
      have i1 : (j : Int) + 1 < (ps.length : Int) := by omega
      have i2 : (j : Int) < (ps.length : Int) := by omega
      have i3 : (0 : Int) ≤ (j : Int) + 1 := by omega
      have i4 : IntKind.i64.wrap ((j : Int) + 1) = (j : Int) + 1 := by rw [IntKind.wrap_i64]; omega
      obtain ⟨b', off', hE, hcell⟩ := pts_open0 (Pts.to ha hbR) (by omega)
      cases hE
      obtain ⟨a0, a1⟩ := hcell 0 (by omega)
      obtain ⟨d0, d1⟩ := hcell j (by omega)
      obtain ⟨f0, f1⟩ := hcell (j + 1) hlt
      have ob := older_of_cell d0
      rw [Nat.zero_mul, Nat.add_zero] at a0 a1
      rw [hx0.out] at a0
      rw [hy0.out] at a1
      have hk2 := crs_in (ps := ps) (by omega) hin2.out j
      have ib := hin2.out _ (List.getElem_mem (show j < ps.length by omega))
      have ic := hin2.out _ (List.getElem_mem hlt)
      unfold inrP at ib ic
      obtain ⟨ib1, ib2, ib3, ib4⟩ := ib
      obtain ⟨ic1, ic2, ic3, ic4⟩ := ic
      have cC : ∀ w', Calls Try.prog 58 #[.agg #[.int .i64 (ps[j].1 - x0), .int .i64 (ps[j].2 - y0)], .agg #[.int .i64 (ps[j + 1].1 - x0), .int .i64 (ps[j + 1].2 - y0)]] w' fun e w'' => e = .returned (.int .i64 (crs ps j)) ∧ Below w'.heap.size w' w'' := fun w' => by
        rw [← cross_crs (by omega) hin2.out j, hp_get (show 0 < ps.length by omega), hp_get (show j < ps.length by omega), hp_get hlt, hx0.out, hy0.out]
        exact cross_b _ _ _ _ w'
      have c1 : ∀ w', Calls Try.prog 43 #[.agg #[.int .i64 ps[j].1, .int .i64 ps[j].2], .agg #[.int .i64 x0, .int .i64 y0]] w' fun e w'' => e = .returned (.agg #[.int .i64 (ps[j].1 - x0), .int .i64 (ps[j].2 - y0)]) ∧ Below w'.heap.size w' w'' := fun w' => by
        rw [← sub_inr (a := ps[j].1) (b := x0) (by omega) (by omega), ← sub_inr (a := ps[j].2) (b := y0) (by omega) (by omega)]
        exact vsub_b _ _ _ _ w'
      have c2 : ∀ w', Calls Try.prog 43 #[.agg #[.int .i64 ps[j + 1].1, .int .i64 ps[j + 1].2], .agg #[.int .i64 x0, .int .i64 y0]] w' fun e w'' => e = .returned (.agg #[.int .i64 (ps[j + 1].1 - x0), .int .i64 (ps[j + 1].2 - y0)]) ∧ Below w'.heap.size w' w'' := fun w' => by
        rw [← sub_inr (a := ps[j + 1].1) (b := x0) (by omega) (by omega), ← sub_inr (a := ps[j + 1].2) (b := y0) (by omega) (by omega)]
        exact vsub_b _ _ _ _ w'
      have hS : Hid (crsS ps (j + 1 - 1) = crsS ps (j - 1) + crs ps j ∧ cenX ps (j + 1 - 1) = cenX ps (j - 1) + (ps[j].1 - x0 + (ps[j + 1].1 - x0)) * crs ps j ∧ cenY ps (j + 1 - 1) = cenY ps (j - 1) + (ps[j].2 - y0 + (ps[j + 1].2 - y0)) * crs ps j) := by
        show _ ∧ _ ∧ _
        rw [← hx0.out, ← hy0.out, ← hp_get (show j < ps.length by omega), ← hp_get hlt, ← hp_get (show 0 < ps.length by omega)]
        obtain ⟨m, rfl⟩ : ∃ m, j = m + 1 := ⟨j - 1, by omega⟩
        refine ⟨rfl, ?_, ?_⟩
        · rw [← Int.add_sub_assoc]; rfl
        · rw [← Int.add_sub_assoc]; rfl
      have be1 : -2097152 ≤ ps[j].1 - x0 ∧ ps[j].1 - x0 ≤ 2097152 := by omega
      have be2 : -2097152 ≤ ps[j].2 - y0 ∧ ps[j].2 - y0 ≤ 2097152 := by omega
      have bf1 : -2097152 ≤ ps[j + 1].1 - x0 ∧ ps[j + 1].1 - x0 ≤ 2097152 := by omega
      have bf2 : -2097152 ≤ ps[j + 1].2 - y0 ∧ ps[j + 1].2 - y0 ≤ 2097152 := by omega
      clear hcell
      generalize ps[j].1 - x0 = e1 at *
      generalize ps[j].2 - y0 = e2 at *
      generalize ps[j + 1].1 - x0 = g1 at *
      generalize ps[j + 1].2 - y0 = g2 at *
      have m1 := mul_between (a := e1 + g1) (b := crs ps j) (A := 4194304) (B := 134217729) (by omega) (by omega) (by omega) (by omega)
      have m2 := mul_between (a := e2 + g2) (b := crs ps j) (A := 4194304) (B := 134217729) (by omega) (by omega) (by omega) (by omega)
      generalize crs ps j = c at *
      generalize crsS ps (j - 1) = s at *
      generalize cenX ps (j - 1) = sx at *
      generalize cenY ps (j - 1) = sy at *
      generalize ps[j].1 = xj at *
      generalize ps[j].2 = yj at *
      generalize ps[j + 1].1 = xn at *
      generalize ps[j + 1].2 = yn at *
      generalize hn2 : ((j - 1 : Nat) : Int) = n2 at *
      clear hn2
      go_wp2_with fail
      apply wp_box2 19 63 17 7 18 8 #[.int .i64 0, .int .i64 0] #[.int .i64 0, .int .i64 0] 27 27 (by kernel_rfl) (by rfl) (by kernel_rfl) (by rfl) (by intro o ho a w; simp at ho; subst ho; simp [go_sem, ptr]) (by intro o ho a w; simp at ho; subst ho; simp [go_sem, ptr])
      · intro p0
        simp only [heads, ghost, List.take_succ_cons, List.take_zero, List.map_cons, List.map_nil]
        repeat (go_big_quiet_step ((first | (go_at_call 43; with_reducible_and_instances exact gw_call (c1 _)) | (go_at_call 43; with_reducible_and_instances exact gw_call (c2 _)))))
        exact wpQuiet_nil rfl
      · intro R bB1 bB2 p0 nB1 nB2 gB1 gB2 neB01 neB01' kB1 kB2 hK
        simp only [List.drop_succ_cons, List.drop_zero, Act.put, ptr, List.setIfInBounds_toArray, List.set_cons_succ, List.set_cons_zero]
        have cB1_0 : _ = some _ := blk_cell kB1 0
        have cB1_1 : _ = some _ := blk_cell kB1 1
        have cB2_0 : _ = some _ := blk_cell kB2 0
        have cB2_1 : _ = some _ := blk_cell kB2 1
        have fB1_0 := blk_free kB1 0
        have fB1_1 := blk_free kB1 1
        have fB2_0 := blk_free kB2 0
        have fB2_1 := blk_free kB2 1
        have oB1 := blk_older kB1
        have oB2 := blk_older kB2
        go_wp2_with fail
        refine box_end2 gB1 gB2 hK ?_ ?_ ?_
        · exact (by repeat (first | with_reducible exact Below.refl _ _ | with_reducible assumption | refine bgw ?_ (by first | (simp; done) | (simp; omega) | omega) _ | refine Below.setCell ?_ (by first | exact Nat.le_of_not_lt (by assumption) | (simp; done) | (simp; omega) | omega) _ | refine Below.alloc ?_ (by first | (simp; done) | (simp; omega) | omega) _ | refine Below.drew ?_))
        · exact (by repeat' (first | with_reducible assumption | with_reducible apply blk_gw | with_reducible apply blk_alloc | with_reducible apply blk_set | ((with_reducible apply blk_other); focus (first | omega | assumption))))
        · exact (by repeat' (first | with_reducible assumption | with_reducible apply blk_gw | with_reducible apply blk_alloc | with_reducible apply blk_set | ((with_reducible apply blk_other); focus (first | omega | assumption))))
      intro bB1 bB2 p0 nB1 nB2 neB01 neB01' kB1 kB2
      have cB1_0 : _ = some _ := blk_cell kB1 0
      have cB1_1 : _ = some _ := blk_cell kB1 1
      have cB2_0 : _ = some _ := blk_cell kB2 0
      have cB2_1 : _ = some _ := blk_cell kB2 1
      have fB1_0 := blk_free kB1 0
      have fB1_1 := blk_free kB1 1
      have fB2_0 := blk_free kB2 0
      have fB2_1 := blk_free kB2 1
      have oB1 := blk_older kB1
      have oB2 := blk_older kB2
      go_upto_region 9 with (go_at_call 58; refine Calls.mono (gw_at (cC _)) ?_; rintro e w1 ⟨rfl, q, rfl⟩)
      refine wp_named ?_
      intro V hV
      have kE : blk V bB1 #[.int .i64 e1, .int .i64 e2] 27 := by rw [hV]; exact blk_gw kB1
      have kG : blk V bB2 #[.int .i64 g1, .int .i64 g2] 27 := by rw [hV]; exact blk_gw kB2
      have kMV : blk V M #[.int .i64 sx, .int .i64 sy] 27 := by rw [hV]; exact blk_gw (blk_gw kM)
      have kRV : blk V w.heap.size #[.int .i64 0, .int .i64 0] 27 := by rw [hV]; exact blk_gw (blk_gw kR)
      have hbV : Below w.heap.size w V := by rw [hV]; exact (by repeat (first | with_reducible exact Below.refl _ _ | with_reducible assumption | refine bgw ?_ (by first | (simp; done) | (simp; omega) | omega) _ | refine Below.setCell ?_ (by first | exact Nat.le_of_not_lt (by assumption) | (simp; done) | (simp; omega) | omega) _ | refine Below.alloc ?_ (by first | (simp; done) | (simp; omega) | omega) _ | refine Below.drew ?_))
      have hzV : wr.heap.size ≤ V.heap.size := by rw [hV]; simp; omega
      have ne1 : bB1 ≠ M := fun e => newer_ge nB1 (by rw [e]; exact blk_lt kM)
      have ne2 : bB2 ≠ M := fun e => newer_ge nB2 (by rw [e]; exact blk_lt kM)
      have hMV := blk_lt kMV
      clear hV nB1 nB2 neB01 neB01' cB1_0 cB1_1 cB2_0 cB2_1 fB1_0 fB1_1 fB2_0 fB2_1 oB1 oB2 kB1 kB2 kM kR ckM_0 ckM_1 fkM_0 fkM_1 okM ckR_0 ckR_1 fkR_0 fkR_1 okR a0 a1 d0 d1 f0 f1 ob c1 c2 cC hbR hszR
      have hszV := hbV.size
      have okE := blk_older kE
      have ckE_0 : _ = some _ := blk_cell kE 0
      have ckE_1 : _ = some _ := blk_cell kE 1
      have fkE_0 := blk_free kE 0
      have fkE_1 := blk_free kE 1
      have okG := blk_older kG
      have ckG_0 : _ = some _ := blk_cell kG 0
      have ckG_1 : _ = some _ := blk_cell kG 1
      have fkG_0 := blk_free kG 0
      have fkG_1 := blk_free kG 1
      have okMV := blk_older kMV
      have ckMV_0 : _ = some _ := blk_cell kMV 0
      have ckMV_1 : _ = some _ := blk_cell kMV 1
      have fkMV_0 := blk_free kMV 0
      have fkMV_1 := blk_free kMV 1
      go_wp2_with fail
      exact ⟨⟨j + 1, by omega, by omega, by rw [hS.out.1]; try go_num, by go_num, by rw [hS.out.2.1, hS.out.2.2]; exact (by apply blk_of; (repeat (first | with_reducible exact kMV | with_reducible apply blk_drew | with_reducible apply blk_gw | with_reducible apply blk_alloc | with_reducible apply blk_set | ((with_reducible apply blk_other); focus omega))); (first | rfl | simp)), (by apply blk_of; (repeat (first | with_reducible exact kRV | with_reducible apply blk_drew | with_reducible apply blk_gw | with_reducible apply blk_alloc | with_reducible apply blk_set | ((with_reducible apply blk_other); focus omega))); (first | rfl | simp)), (by repeat (first | with_reducible exact Below.refl _ _ | with_reducible assumption | refine bgw ?_ (by first | (simp; done) | (simp; omega) | omega) _ | refine Below.setCell ?_ (by first | exact Nat.le_of_not_lt (by assumption) | (simp; done) | (simp; omega) | omega) _ | refine Below.alloc ?_ (by first | (simp; done) | (simp; omega) | omega) _ | refine Below.drew ?_))⟩, by (try go_num); simp [intOf]; (try omega)⟩
    · have i1 : ¬ (j : Int) + 1 < (ps.length : Int) := by omega
      have e : j - 1 = ps.length - 2 := by omega
      rw [e, hX0.out, hY0.out] at kM
      rw [e, hX0.out] at ckM_0
      rw [e, hY0.out] at ckM_1
      rw [e, hS0.out]
      clear e hs hcx hcy
      go_wp2_with fail
      refine wp_region_gw_tail 3 (by kernel_rfl) (by kernel_rfl) ?_
      simp only [List.take_succ_cons, List.take_zero, List.drop_succ_cons, List.drop_zero]
      repeat (go_big_quiet_step ((first | (go_at_call 43; exact gw_call (vsub_b _ _ _ _ _)) | (go_at_call 58; exact gw_call (cross_b _ _ _ _ _)))))
      refine wpQuiet_nil ?_
      intro w1 hw1
      obtain ⟨q, rfl⟩ := hw1
      go_wp2_with fail
      refine post_nmd ?_
      intro Z hZ
      have kZ : blk Z w.heap.size #[.int .i64 SX, .int .i64 SY] 27 := by rw [hZ]; exact (by apply blk_of; (repeat (first | with_reducible exact kR | with_reducible apply blk_drew | with_reducible apply blk_gw | with_reducible apply blk_alloc | with_reducible apply blk_set | ((with_reducible apply blk_other); focus omega))); (first | rfl | simp))
      have hbZ : Below w.heap.size w Z := by rw [hZ]; exact (by repeat (first | with_reducible exact Below.refl _ _ | with_reducible assumption | refine bgw ?_ (by first | (simp; done) | (simp; omega) | omega) _ | refine Below.setCell ?_ (by first | exact Nat.le_of_not_lt (by assumption) | (simp; done) | (simp; omega) | omega) _ | refine Below.alloc ?_ (by first | (simp; done) | (simp; omega) | omega) _ | refine Below.drew ?_))
      clear hZ
      have okZ := blk_older kZ
      have ckZ_0 : _ = some _ := blk_cell kZ 0
      have ckZ_1 : _ = some _ := blk_cell kZ 1
      have fkZ_0 := blk_free kZ 0
      have fkZ_1 := blk_free kZ 1
      exact bodyPost_ret (v := .tuple #[.int .i64 S, .agg #[.int .i64 SX, .int .i64 SY]]) (by simp [results, Try.results38, go_sem, ckZ_0, ckZ_1]) rfl ⟨rfl, hbZ⟩

set_option maxHeartbeats 4000000 in
theorem xarea_b (A : Option Addr) (cap : Nat) (ps : List (Int × Int)) (hl : ps.length ≤ 4611686018427387904) (w : World) (ha : Pts w A ps) (hk : ps.length ≤ cap := by first | omega | decide) : Calls Try.prog 15 #[.slice A ps.length cap] w fun e w' => e = .returned (.int .i64 (areaP ps)) ∧ Below w.heap.size w w' := by
  have cV := fun w' h => xconv_b A cap ps hl w' h hk
  unfold areaP
  cases hR : cvx ps
  focus
    rw [hR] at cV
    rw [if_neg (by simp)]
    clear hR
    go_enter Try.func15, Try.ntmps15
    go_wp2_with (go_at_call 13; refine Calls.mono (gw_at (cV _ (Pts.to ha (by repeat (first | with_reducible exact Below.refl _ _ | with_reducible assumption | refine bgw ?_ (by first | (simp; done) | (simp; omega) | omega) _ | refine Below.setCell ?_ (by first | exact Nat.le_of_not_lt (by assumption) | (simp; done) | (simp; omega) | omega) _ | refine Below.alloc ?_ (by first | (simp; done) | (simp; omega) | omega) _ | refine Below.drew ?_))))) ?_; rintro e w1 ⟨rfl, q, rfl⟩)
    go_ret
    exact ⟨rfl, (by repeat (first | with_reducible exact Below.refl _ _ | with_reducible assumption | refine bgw ?_ (by first | (simp; done) | (simp; omega) | omega) _ | refine Below.setCell ?_ (by first | exact Nat.le_of_not_lt (by assumption) | (simp; done) | (simp; omega) | omega) _ | refine Below.alloc ?_ (by first | (simp; done) | (simp; omega) | omega) _ | refine Below.drew ?_))⟩
  rw [hR] at cV
  rw [if_pos rfl]
  obtain ⟨n3, n8, hin, -⟩ := cvx_iff.1 hR
  have cF := fun w' h => xfan_b A cap ps n3 n8 hin w' h
  clear hin hR
  generalize crsS ps (ps.length - 2) = S at *
  generalize cenX ps (ps.length - 2) = X at *
  generalize cenY ps (ps.length - 2) = Y at *
  go_enter Try.func15, Try.ntmps15
  go_wp2_with (first | (go_at_call 13; refine Calls.mono (gw_at (cV _ (Pts.to ha (by repeat (first | with_reducible exact Below.refl _ _ | with_reducible assumption | refine bgw ?_ (by first | (simp; done) | (simp; omega) | omega) _ | refine Below.setCell ?_ (by first | exact Nat.le_of_not_lt (by assumption) | (simp; done) | (simp; omega) | omega) _ | refine Below.alloc ?_ (by first | (simp; done) | (simp; omega) | omega) _ | refine Below.drew ?_))))) ?_; rintro e w1 ⟨rfl, q, rfl⟩) | (go_at_call 38; refine Calls.mono (gw_at (cF _ (Pts.to ha (by repeat (first | with_reducible exact Below.refl _ _ | with_reducible assumption | refine bgw ?_ (by first | (simp; done) | (simp; omega) | omega) _ | refine Below.setCell ?_ (by first | exact Nat.le_of_not_lt (by assumption) | (simp; done) | (simp; omega) | omega) _ | refine Below.alloc ?_ (by first | (simp; done) | (simp; omega) | omega) _ | refine Below.drew ?_))))) ?_; rintro e w1 ⟨rfl, q2, rfl⟩) | (go_at_call 39; refine Calls.mono (gw_at (rd_b _ _ _)) ?_; rintro e w1 ⟨rfl, q3, rfl⟩))
  go_ret
  exact ⟨rfl, (by repeat (first | with_reducible exact Below.refl _ _ | with_reducible assumption | refine bgw ?_ (by first | (simp; done) | (simp; omega) | omega) _ | refine Below.setCell ?_ (by first | exact Nat.le_of_not_lt (by assumption) | (simp; done) | (simp; omega) | omega) _ | refine Below.alloc ?_ (by first | (simp; done) | (simp; omega) | omega) _ | refine Below.drew ?_))⟩

theorem cen_eq {ps : List Pt} (h : cvx ps = true) : cenP ps = ((hp' ps 0).1 + rdiv (cenX ps (ps.length - 2)) (3 * crsS ps (ps.length - 2)), (hp' ps 0).2 + rdiv (cenY ps (ps.length - 2)) (3 * crsS ps (ps.length - 2))) := by
  unfold cenP
  rw [if_pos h]
  by_cases c : crsS ps (ps.length - 2) = 0
  · rw [if_pos c, c]
    have hz : ∀ n : Int, rdiv n (3 * 0) = 0 := fun n => by unfold rdiv rok; simp
    rw [hz, hz]; simp
  · rw [if_neg c]

set_option maxRecDepth 100000 in
set_option maxHeartbeats 8000000 in
theorem xcen_b (A : Option Addr) (cap : Nat) (ps : List (Int × Int)) (hl : ps.length ≤ 4611686018427387904) (w : World) (ha : Pts w A ps) (hk : ps.length ≤ cap := by first | omega | decide) : Calls Try.prog 17 #[.slice A ps.length cap] w fun e w' => e = .returned (.agg #[.int .i64 (cenP ps).1, .int .i64 (cenP ps).2]) ∧ Below w.heap.size w w' := by
  have cV := fun w' h => xconv_b A cap ps hl w' h hk
  cases hR : cvx ps
  focus
    unfold cenP
    rw [hR] at cV
    rw [if_neg (by rw [hR]; simp)]
    clear hR
    go_enter Try.func17, Try.ntmps17
    go_wp2_with (go_at_call 13; refine Calls.mono (gw_at (cV _ (Pts.to ha (by repeat (first | with_reducible exact Below.refl _ _ | with_reducible assumption | refine bgw ?_ (by first | (simp; done) | (simp; omega) | omega) _ | refine Below.setCell ?_ (by first | exact Nat.le_of_not_lt (by assumption) | (simp; done) | (simp; omega) | omega) _ | refine Below.alloc ?_ (by first | (simp; done) | (simp; omega) | omega) _ | refine Below.drew ?_))))) ?_; rintro e w1 ⟨rfl, q, rfl⟩)
    exact bodyPost_ret (v := .agg #[.int .i64 0, .int .i64 0]) (by simp [results, Try.results17, go_sem]; try (first | with_reducible rfl | exact ⟨rfl, rfl⟩ | exact ⟨rfl, rfl, rfl⟩ | exact ⟨rfl, rfl, rfl, rfl⟩ | exact ⟨rfl, rfl, rfl, rfl, rfl⟩ | exact ⟨rfl, rfl, rfl, rfl, rfl, rfl⟩ | rfl)) rfl ⟨rfl, (by repeat (first | with_reducible exact Below.refl _ _ | with_reducible assumption | refine bgw ?_ (by first | (simp; done) | (simp; omega) | omega) _ | refine Below.setCell ?_ (by first | exact Nat.le_of_not_lt (by assumption) | (simp; done) | (simp; omega) | omega) _ | refine Below.alloc ?_ (by first | (simp; done) | (simp; omega) | omega) _ | refine Below.drew ?_))⟩
  have hU := cen_eq hR
  rw [hR] at cV
  obtain ⟨n3, n8, hin, -⟩ := cvx_iff.1 hR
  have cF := fun w' h => xfan_b A cap ps n3 n8 hin w' h
  have hs := crsS_in (ps := ps) (by omega) hin (ps.length - 2)
  obtain ⟨hcx, hcy⟩ := cen_in (ps := ps) (by omega) hin (ps.length - 2)
  have hr1 := rdiv_abs (cenX ps (ps.length - 2)) (3 * crsS ps (ps.length - 2))
  have hr2 := rdiv_abs (cenY ps (ps.length - 2)) (3 * crsS ps (ps.length - 2))
  have n5 : ((ps.length - 2 : Nat) : Int) ≤ 6 := by omega
  have n0 : (0 : Int) < (ps.length : Int) := by omega
  obtain ⟨U, V, hUV⟩ : ∃ U V, Hid (cenP ps = (U, V)) := ⟨_, _, rfl⟩
  have ia := hin _ (List.getElem_mem (show 0 < ps.length by omega))
  rw [hp_get (show 0 < ps.length by omega), hUV.out] at hU
  rw [hUV.out]
  dsimp only
  unfold inrP at ia
  obtain ⟨ia1, ia2, ia3, ia4⟩ := ia
  obtain ⟨b, off, rfl, -⟩ := pts_open0 ha (by omega)
  have hcell : ∀ w', Below w.heap.size w w' → w'.cell? ⟨b, off, none⟩ = some (.int .i64 ps[0].1) ∧ w'.cell? ⟨b, off + 1, none⟩ = some (.int .i64 ps[0].2) := fun w' hb => by
    obtain ⟨b', off', e, hc⟩ := pts_open0 (Pts.to ha hb) (by omega)
    cases e
    have := hc 0 (by omega)
    rw [Nat.zero_mul, Nat.add_zero] at this
    exact this
  clear hR hin hUV
  generalize ps[0].1 = x0 at *
  generalize ps[0].2 = y0 at *
  generalize crsS ps (ps.length - 2) = S at *
  generalize cenX ps (ps.length - 2) = sx at *
  generalize cenY ps (ps.length - 2) = sy at *
  generalize hn2 : ((ps.length - 2 : Nat) : Int) = n2 at *
  clear hn2
  have hs1 : -900000000 ≤ S ∧ S ≤ 900000000 := by omega
  have hx1 : -4000000000000000 ≤ sx ∧ sx ≤ 4000000000000000 := by omega
  have hy1 : -4000000000000000 ≤ sy ∧ sy ≤ 4000000000000000 := by omega
  have hw3 : IntKind.i64.wrap (3 * S) = 3 * S := by rw [IntKind.wrap_i64]; omega
  have hx2 : -4000000000000000 ≤ rdiv sx (3 * S) ∧ rdiv sx (3 * S) ≤ 4000000000000000 := by omega
  have hy2 : -4000000000000000 ≤ rdiv sy (3 * S) ∧ rdiv sy (3 * S) ≤ 4000000000000000 := by omega
  clear hs hcx hcy hr1 hr2
  obtain ⟨r1, hr1⟩ : ∃ r1, Hid (rdiv sx (3 * S) = r1) := ⟨rdiv sx (3 * S), rfl⟩
  obtain ⟨r2, hr2⟩ : ∃ r2, Hid (rdiv sy (3 * S) = r2) := ⟨rdiv sy (3 * S), rfl⟩
  have c1 : ∀ w', Calls Try.prog 39 #[.int .i64 sx, .int .i64 (3 * S)] w' fun e w'' => e = .returned (.int .i64 r1) ∧ Below w'.heap.size w' w'' := fun w' => by rw [← hr1.out]; exact rd_b _ _ _
  have c2 : ∀ w', Calls Try.prog 39 #[.int .i64 sy, .int .i64 (3 * S)] w' fun e w'' => e = .returned (.int .i64 r2) ∧ Below w'.heap.size w' w'' := fun w' => by rw [← hr2.out]; exact rd_b _ _ _
  rw [hr1.out] at hx2 hU
  rw [hr2.out] at hy2 hU
  obtain ⟨rfl, rfl⟩ : U = x0 + r1 ∧ V = y0 + r2 := ⟨congrArg Prod.fst hU, congrArg Prod.snd hU⟩
  clear hU
  have hw4 : IntKind.i64.wrap (x0 + r1) = x0 + r1 := by rw [IntKind.wrap_i64]; omega
  have hw5 : IntKind.i64.wrap (y0 + r2) = y0 + r2 := by rw [IntKind.wrap_i64]; omega
  go_enter Try.func17, Try.ntmps17
  go_upto_region 4 with (first | (go_at_call 13; refine Calls.mono (gw_at (cV _ (Pts.to ha (by repeat (first | with_reducible exact Below.refl _ _ | with_reducible assumption | refine bgw ?_ (by first | (simp; done) | (simp; omega) | omega) _ | refine Below.setCell ?_ (by first | exact Nat.le_of_not_lt (by assumption) | (simp; done) | (simp; omega) | omega) _ | refine Below.alloc ?_ (by first | (simp; done) | (simp; omega) | omega) _ | refine Below.drew ?_))))) ?_; rintro e w1 ⟨rfl, q, rfl⟩) | (go_at_call 38; refine Calls.mono (gw_at (cF _ (Pts.to ha (by repeat (first | with_reducible exact Below.refl _ _ | with_reducible assumption | refine bgw ?_ (by first | (simp; done) | (simp; omega) | omega) _ | refine Below.setCell ?_ (by first | exact Nat.le_of_not_lt (by assumption) | (simp; done) | (simp; omega) | omega) _ | refine Below.alloc ?_ (by first | (simp; done) | (simp; omega) | omega) _ | refine Below.drew ?_))))) ?_; rintro e w1 ⟨rfl, q2, rfl⟩))
  refine wp_named ?_
  intro W hW
  have kR : blk W w.heap.size #[.int .i64 0, .int .i64 0] 27 := by rw [hW]; exact (by repeat (first | with_reducible exact blk_new _ _ _ | ((with_reducible refine blk_at ?_); (simp; done)) | with_reducible apply blk_alloc | with_reducible apply blk_gw | with_reducible apply blk_drew))
  have kM : blk W (w.heap.size + 1 + q.os.size + q2.os.size) #[.int .i64 sx, .int .i64 sy] 27 := by rw [hW]; exact (by repeat (first | with_reducible exact blk_new _ _ _ | ((with_reducible refine blk_at ?_); (simp; done)) | with_reducible apply blk_alloc | with_reducible apply blk_gw | with_reducible apply blk_drew))
  have hbW : Below w.heap.size w W := by rw [hW]; exact (by repeat (first | with_reducible exact Below.refl _ _ | with_reducible assumption | refine bgw ?_ (by first | (simp; done) | (simp; omega) | omega) _ | refine Below.setCell ?_ (by first | exact Nat.le_of_not_lt (by assumption) | (simp; done) | (simp; omega) | omega) _ | refine Below.alloc ?_ (by first | (simp; done) | (simp; omega) | omega) _ | refine Below.drew ?_))
  clear hW cV cF
  have hlM : w.heap.size < w.heap.size + 1 + q.os.size + q2.os.size := by omega
  generalize w.heap.size + 1 + q.os.size + q2.os.size = M at *
  obtain ⟨a0, a1⟩ := hcell W hbW
  have ob := older_of_cell a0
  have okR := blk_older kR
  have ckR_0 : _ = some _ := blk_cell kR 0
  have ckR_1 : _ = some _ := blk_cell kR 1
  have fkR_0 := blk_free kR 0
  have fkR_1 := blk_free kR 1
  have okM := blk_older kM
  have ckM_0 : _ = some _ := blk_cell kM 0
  have ckM_1 : _ = some _ := blk_cell kM 1
  have fkM_0 := blk_free kM 0
  have fkM_1 := blk_free kM 1
  have hszW := hbW.size
  clear hcell
  refine wp_region_gw_tail 21 (by kernel_rfl) (by kernel_rfl) ?_
  simp only [List.take_succ_cons, List.take_zero, List.drop_succ_cons, List.drop_zero]
  repeat (go_big_quiet_step ((first | (go_at_call 39; with_reducible_and_instances exact gw_call (c1 _)) | (go_at_call 39; with_reducible_and_instances exact gw_call (c2 _)))))
  refine wpQuiet_nil ?_
  intro w1 hw1
  obtain ⟨q, rfl⟩ := hw1
  go_wp2_with fail
  refine post_nmd ?_
  intro Z hZ
  have kZ : blk Z w.heap.size #[.int .i64 (x0 + r1), .int .i64 (y0 + r2)] 27 := by rw [hZ]; exact (by apply blk_of; (repeat (first | with_reducible exact kR | with_reducible apply blk_drew | with_reducible apply blk_gw | with_reducible apply blk_alloc | with_reducible apply blk_set | ((with_reducible apply blk_other); focus omega))); (first | rfl | simp))
  have hbZ : Below w.heap.size w Z := by rw [hZ]; exact Below.trans hbW (by repeat (first | with_reducible exact Below.refl _ _ | with_reducible assumption | refine bgw ?_ (by first | (simp; done) | (simp; omega) | omega) _ | refine Below.setCell ?_ (by first | exact Nat.le_of_not_lt (by assumption) | (simp; done) | (simp; omega) | omega) _ | refine Below.alloc ?_ (by first | (simp; done) | (simp; omega) | omega) _ | refine Below.drew ?_))
  clear hZ
  have okZ := blk_older kZ
  have ckZ_0 : _ = some _ := blk_cell kZ 0
  have ckZ_1 : _ = some _ := blk_cell kZ 1
  have fkZ_0 := blk_free kZ 0
  have fkZ_1 := blk_free kZ 1
  exact bodyPost_ret (v := .agg #[.int .i64 (x0 + r1), .int .i64 (y0 + r2)]) (by simp [results, Try.results17, go_sem, ckZ_0, ckZ_1]) rfl ⟨rfl, hbZ⟩

end Go.Proofs.Ytncijpaooiopfaa
