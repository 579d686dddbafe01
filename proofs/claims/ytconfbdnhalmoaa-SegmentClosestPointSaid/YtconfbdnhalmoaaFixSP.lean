/- Contracts of package segment, continued: ClosestPoints, Distance. -/
import Derived.Test.YtconfbdnhalmoaaFixSC
set_option linter.unusedVariables false
namespace Go.Proofs.Ytconfbdnhalmoaa
open Go.RowKit Fx

set_option maxHeartbeats 8000000 in
theorem xcps1_b (a1 a2 b1 b2 c1 c2 d1 d2 : Int) (ax ay bx b_y cx cy dx dy : Int) (ha1 : sat ax = a1) (ha2 : sat ay = a2) (hb1 : sat bx = b1) (hb2 : sat b_y = b2) (hc1 : sat cx = c1) (hc2 : sat cy = c2) (hd1 : sat dx = d1) (hd2 : sat dy = d2) (hI : isct a1 a2 b1 b2 c1 c2 d1 d2 = true) (w : World) : Calls Try.prog 9 #[.agg #[.int .i64 ax, .int .i64 ay], .agg #[.int .i64 bx, .int .i64 b_y], .agg #[.int .i64 cx, .int .i64 cy], .agg #[.int .i64 dx, .int .i64 dy]] w fun e w' => e = .returned (.tuple #[.agg #[.int .i64 (cps a1 a2 b1 b2 c1 c2 d1 d2).px, .int .i64 (cps a1 a2 b1 b2 c1 c2 d1 d2).py], .agg #[.int .i64 (cps a1 a2 b1 b2 c1 c2 d1 d2).qx, .int .i64 (cps a1 a2 b1 b2 c1 c2 d1 d2).qy]]) ∧ Below w.heap.size w w' := by
  have ga1 : -536870911 ≤ a1 ∧ a1 ≤ 536870911 := ha1 ▸ ⟨sat_ge _, sat_le _⟩
  have ga2 : -536870911 ≤ a2 ∧ a2 ≤ 536870911 := ha2 ▸ ⟨sat_ge _, sat_le _⟩
  have gb1 : -536870911 ≤ b1 ∧ b1 ≤ 536870911 := hb1 ▸ ⟨sat_ge _, sat_le _⟩
  have gb2 : -536870911 ≤ b2 ∧ b2 ≤ 536870911 := hb2 ▸ ⟨sat_ge _, sat_le _⟩
  have gc1 : -536870911 ≤ c1 ∧ c1 ≤ 536870911 := hc1 ▸ ⟨sat_ge _, sat_le _⟩
  have gc2 : -536870911 ≤ c2 ∧ c2 ≤ 536870911 := hc2 ▸ ⟨sat_ge _, sat_le _⟩
  have gd1 : -536870911 ≤ d1 ∧ d1 ≤ 536870911 := hd1 ▸ ⟨sat_ge _, sat_le _⟩
  have gd2 : -536870911 ≤ d2 ∧ d2 ≤ 536870911 := hd2 ▸ ⟨sat_ge _, sat_le _⟩
  have hC : cps a1 a2 b1 b2 c1 c2 d1 d2 = ⟨lerp a1 b1 (sgt a1 a2 b1 b2 c1 c2 d1 d2), lerp a2 b2 (sgt a1 a2 b1 b2 c1 c2 d1 d2), lerp a1 b1 (sgt a1 a2 b1 b2 c1 c2 d1 d2), lerp a2 b2 (sgt a1 a2 b1 b2 c1 c2 d1 d2)⟩ := if_pos hI
  rw [hC]
  dsimp only
  have cI := fun w' => xisct_b a1 a2 b1 b2 c1 c2 d1 d2 w'
  rw [hI] at cI
  have cR := fun w' => xscr_b a1 a2 b1 b2 c1 c2 d1 d2 ga1 ga2 gb1 gb2 gc1 gc2 gd1 gd2 w'
  generalize sgt a1 a2 b1 b2 c1 c2 d1 d2 = t at *
  clear hC hI ga1 ga2 gb1 gb2 gc1 gc2 gd1 gd2
  generalize hP1 : lerp a1 b1 t = p1 at *
  generalize hP2 : lerp a2 b2 t = p2 at *
  clear hP1 hP2
  go_enter Try.func9, Try.ntmps9
  go_upto_region 1 with fail
  refine wp_region_gw_tail 8 (by kernel_rfl) (by kernel_rfl) ?_
  simp only [List.take_succ_cons, List.take_zero, List.drop_succ_cons, List.drop_zero]
  repeat (go_big_quiet_step ((first | (go_at_call 24; exact gw_call (xsgsat_b _ _ _)) | (go_at_call 16; (first | (exact gw_call (boolIs (xisct_b _ _ _ _ _ _ _ _ _) (b := true) (by assumption))) | (exact gw_call (boolIs (xisct_b _ _ _ _ _ _ _ _ _) (b := false) (by assumption))) | (exact gw_call (xisct_b _ _ _ _ _ _ _ _ _)))) | (go_at_call 25; exact gw_call (xscr_b _ _ _ _ _ _ _ _ (by with_reducible assumption) (by with_reducible assumption) (by with_reducible assumption) (by with_reducible assumption) (by with_reducible assumption) (by with_reducible assumption) (by with_reducible assumption) (by with_reducible assumption) _)))))
  refine wpQuiet_nil ?_
  intro w1 hw1
  obtain ⟨q, rfl⟩ := hw1
  go_upto_region 4 with (first
    | (go_at_call 16; refine Calls.mono (gw_at (cI _)) ?_; rintro e w1 ⟨rfl, qi, rfl⟩)
    | (go_at_call 25; refine Calls.mono (gw_at (cR _)) ?_; rintro e w1 ⟨rfl, qc, rfl⟩))
  refine wp_named ?_
  intro W hW
  have hbW : Below w.heap.size w W := by rw [hW]; exact (by repeat (first | with_reducible exact Below.refl _ _ | with_reducible assumption | refine bgw ?_ (by first | (simp; done) | (simp; omega) | omega) _ | refine Below.setCell ?_ (by first | exact Nat.le_of_not_lt (by assumption) | (simp; done) | (simp; omega) | omega) _ | refine Below.alloc ?_ (by first | (simp; done) | (simp; omega) | omega) _ | refine Below.drew ?_))
  have kP : blk W (w.heap.size + 1 + 1 + 1 + 1 + 1 + 1 + q.os.size + qi.os.size + qc.os.size) #[.int .i64 p1, .int .i64 p2] 23 := by rw [hW]; exact (by repeat (first | with_reducible exact blk_new _ _ _ | ((with_reducible refine blk_at ?_); (simp; done)) | with_reducible apply blk_alloc | with_reducible apply blk_gw | with_reducible apply blk_drew))
  have k8 : blk W (w.heap.size + 1 + 1 + 1 + 1) #[.int .i64 0, .int .i64 0] 23 := by rw [hW]; exact (by repeat (first | with_reducible exact blk_new _ _ _ | ((with_reducible refine blk_at ?_); (simp; done)) | with_reducible apply blk_alloc | with_reducible apply blk_gw | with_reducible apply blk_drew))
  have k9 : blk W (w.heap.size + 1 + 1 + 1 + 1 + 1) #[.int .i64 0, .int .i64 0] 23 := by rw [hW]; exact (by repeat (first | with_reducible exact blk_new _ _ _ | ((with_reducible refine blk_at ?_); (simp; done)) | with_reducible apply blk_alloc | with_reducible apply blk_gw | with_reducible apply blk_drew))
  clear hW
  have hszW := hbW.size
  have h08 : w.heap.size ≤ w.heap.size + 1 + 1 + 1 + 1 := by omega
  have h89 : w.heap.size + 1 + 1 + 1 + 1 < w.heap.size + 1 + 1 + 1 + 1 + 1 := by omega
  have h09 : w.heap.size ≤ w.heap.size + 1 + 1 + 1 + 1 + 1 := by omega
  have h9P : w.heap.size + 1 + 1 + 1 + 1 + 1 < w.heap.size + 1 + 1 + 1 + 1 + 1 + 1 + q.os.size + qi.os.size + qc.os.size := by omega
  generalize w.heap.size + 1 + 1 + 1 + 1 + 1 + 1 + q.os.size + qi.os.size + qc.os.size = bP at *
  generalize w.heap.size + 1 + 1 + 1 + 1 + 1 = B9 at *
  generalize w.heap.size + 1 + 1 + 1 + 1 = B8 at *
  have okP := blk_older kP
  have ckP_0 : _ = some _ := blk_cell kP 0
  have ckP_1 : _ = some _ := blk_cell kP 1
  have fkP_0 := blk_free kP 0
  have fkP_1 := blk_free kP 1
  have ok8 := blk_older k8
  have ck8_0 : _ = some _ := blk_cell k8 0
  have ck8_1 : _ = some _ := blk_cell k8 1
  have fk8_0 := blk_free k8 0
  have fk8_1 := blk_free k8 1
  have ok9 := blk_older k9
  have ck9_0 : _ = some _ := blk_cell k9 0
  have ck9_1 : _ = some _ := blk_cell k9 1
  have fk9_0 := blk_free k9 0
  have fk9_1 := blk_free k9 1
  have m8 : blk ((W.setCell ⟨B8, 0, none⟩ (.int .i64 p1)).setCell ⟨B8, 1, none⟩ (.int .i64 p2)) B8 #[.int .i64 p1, .int .i64 p2] 23 := (by apply blk_of; (repeat (first | with_reducible exact k8 | with_reducible apply blk_drew | with_reducible apply blk_gw | with_reducible apply blk_alloc | with_reducible apply blk_set | ((with_reducible apply blk_other); focus omega))); (first | rfl | simp))
  have mP : blk ((W.setCell ⟨B8, 0, none⟩ (.int .i64 p1)).setCell ⟨B8, 1, none⟩ (.int .i64 p2)) bP #[.int .i64 p1, .int .i64 p2] 23 := (by apply blk_of; (repeat (first | with_reducible exact kP | with_reducible apply blk_drew | with_reducible apply blk_gw | with_reducible apply blk_alloc | with_reducible apply blk_set | ((with_reducible apply blk_other); focus omega))); (first | rfl | simp))
  have m9 : blk ((W.setCell ⟨B8, 0, none⟩ (.int .i64 p1)).setCell ⟨B8, 1, none⟩ (.int .i64 p2)) B9 #[.int .i64 0, .int .i64 0] 23 := (by apply blk_of; (repeat (first | with_reducible exact k9 | with_reducible apply blk_drew | with_reducible apply blk_gw | with_reducible apply blk_alloc | with_reducible apply blk_set | ((with_reducible apply blk_other); focus omega))); (first | rfl | simp))
  have omP := blk_older mP
  have cmP_0 : _ = some _ := blk_cell mP 0
  have cmP_1 : _ = some _ := blk_cell mP 1
  have fmP_0 := blk_free mP 0
  have fmP_1 := blk_free mP 1
  have om9 := blk_older m9
  have cm9_0 : _ = some _ := blk_cell m9 0
  have cm9_1 : _ = some _ := blk_cell m9 1
  have fm9_0 := blk_free m9 0
  have fm9_1 := blk_free m9 1
  go_region
  go_wp2_with fail
  refine post_named ?_
  intro Z hZ
  have z8 : blk Z B8 #[.int .i64 p1, .int .i64 p2] 23 := by rw [hZ]; exact (by apply blk_of; (repeat (first | with_reducible exact m8 | with_reducible apply blk_drew | with_reducible apply blk_gw | with_reducible apply blk_alloc | with_reducible apply blk_set | ((with_reducible apply blk_other); focus omega))); (first | rfl | simp))
  have z9 : blk Z B9 #[.int .i64 p1, .int .i64 p2] 23 := by rw [hZ]; exact (by apply blk_of; (repeat (first | with_reducible exact m9 | with_reducible apply blk_drew | with_reducible apply blk_gw | with_reducible apply blk_alloc | with_reducible apply blk_set | ((with_reducible apply blk_other); focus omega))); (first | rfl | simp))
  have hbZ : Below w.heap.size w Z := by rw [hZ]; exact (by repeat (first | with_reducible exact Below.refl _ _ | with_reducible assumption | refine bgw ?_ (by first | (simp; done) | (simp; omega) | omega) _ | refine Below.setCell ?_ (by first | exact Nat.le_of_not_lt (by assumption) | (simp; done) | (simp; omega) | omega) _ | refine Below.alloc ?_ (by first | (simp; done) | (simp; omega) | omega) _ | refine Below.drew ?_))
  clear hZ
  have oz8 := blk_older z8
  have cz8_0 : _ = some _ := blk_cell z8 0
  have cz8_1 : _ = some _ := blk_cell z8 1
  have fz8_0 := blk_free z8 0
  have fz8_1 := blk_free z8 1
  have oz9 := blk_older z9
  have cz9_0 : _ = some _ := blk_cell z9 0
  have cz9_1 : _ = some _ := blk_cell z9 1
  have fz9_0 := blk_free z9 0
  have fz9_1 := blk_free z9 1
  exact bodyPost_ret (v := .tuple #[.agg #[.int .i64 p1, .int .i64 p2], .agg #[.int .i64 p1, .int .i64 p2]]) (by simp [results, Try.results9, go_sem, cz8_0, cz8_1, cz9_0, cz9_1]) rfl ⟨rfl, hbZ⟩

set_option maxRecDepth 100000 in
set_option maxHeartbeats 8000000 in
theorem xcps0_b (a1 a2 b1 b2 c1 c2 d1 d2 : Int) (ax ay bx b_y cx cy dx dy : Int) (ha1 : sat ax = a1) (ha2 : sat ay = a2) (hb1 : sat bx = b1) (hb2 : sat b_y = b2) (hc1 : sat cx = c1) (hc2 : sat cy = c2) (hd1 : sat dx = d1) (hd2 : sat dy = d2) (hI : isct a1 a2 b1 b2 c1 c2 d1 d2 = false) (w : World) : Calls Try.prog 9 #[.agg #[.int .i64 ax, .int .i64 ay], .agg #[.int .i64 bx, .int .i64 b_y], .agg #[.int .i64 cx, .int .i64 cy], .agg #[.int .i64 dx, .int .i64 dy]] w fun e w' => e = .returned (.tuple #[.agg #[.int .i64 (cps a1 a2 b1 b2 c1 c2 d1 d2).px, .int .i64 (cps a1 a2 b1 b2 c1 c2 d1 d2).py], .agg #[.int .i64 (cps a1 a2 b1 b2 c1 c2 d1 d2).qx, .int .i64 (cps a1 a2 b1 b2 c1 c2 d1 d2).qy]]) ∧ Below w.heap.size w w' := by
  have sa1 : sat a1 = a1 := by rw [← ha1, sat_sat]
  have sa2 : sat a2 = a2 := by rw [← ha2, sat_sat]
  have sb1 : sat b1 = b1 := by rw [← hb1, sat_sat]
  have sb2 : sat b2 = b2 := by rw [← hb2, sat_sat]
  have sc1 : sat c1 = c1 := by rw [← hc1, sat_sat]
  have sc2 : sat c2 = c2 := by rw [← hc2, sat_sat]
  have sd1 : sat d1 = d1 := by rw [← hd1, sat_sat]
  have sd2 : sat d2 = d2 := by rw [← hd2, sat_sat]
  obtain ⟨u1, hu1⟩ : ∃ v, cpc (cpt c1 c2 d1 d2 a1 a2) c1 d1 = v := ⟨_, rfl⟩
  obtain ⟨u2, hu2⟩ : ∃ v, cpc (cpt c1 c2 d1 d2 a1 a2) c2 d2 = v := ⟨_, rfl⟩
  obtain ⟨v1, hv1⟩ : ∃ v, cpc (cpt c1 c2 d1 d2 b1 b2) c1 d1 = v := ⟨_, rfl⟩
  obtain ⟨v2, hv2⟩ : ∃ v, cpc (cpt c1 c2 d1 d2 b1 b2) c2 d2 = v := ⟨_, rfl⟩
  obtain ⟨x1, hx1⟩ : ∃ v, cpc (cpt a1 a2 b1 b2 c1 c2) a1 b1 = v := ⟨_, rfl⟩
  obtain ⟨x2, hx2⟩ : ∃ v, cpc (cpt a1 a2 b1 b2 c1 c2) a2 b2 = v := ⟨_, rfl⟩
  obtain ⟨y1, hy1⟩ : ∃ v, cpc (cpt a1 a2 b1 b2 d1 d2) a1 b1 = v := ⟨_, rfl⟩
  obtain ⟨y2, hy2⟩ : ∃ v, cpc (cpt a1 a2 b1 b2 d1 d2) a2 b2 = v := ⟨_, rfl⟩
  have hC : cps a1 a2 b1 b2 c1 c2 d1 d2 = (((Pp.mk a1 a2 u1 u2).pick ⟨b1, b2, v1, v2⟩).pick ⟨x1, x2, c1, c2⟩).pick ⟨y1, y2, d1, d2⟩ := by
    unfold cps
    rw [hI, if_neg (by simp)]
    unfold best cand1 cand2 cand3 cand4
    rw [sa1, sa2, sb1, sb2, sc1, sc2, sd1, sd2, hu1, hu2, hv1, hv2, hx1, hx2, hy1, hy2]
  rw [hC]
  generalize hO1 : Pp.mk a1 a2 u1 u2 = O1
  generalize hO2 : O1.pick ⟨b1, b2, v1, v2⟩ = O2
  generalize hO3 : O2.pick ⟨x1, x2, c1, c2⟩ = O3
  generalize hO4 : O3.pick ⟨y1, y2, d1, d2⟩ = O4
  clear hC sa1 sa2 sb1 sb2 sc1 sc2 sd1 sd2
  have cI := fun w' => xisct_b a1 a2 b1 b2 c1 c2 d1 d2 w'
  rw [hI] at cI
  have cC := fun w' => xscc_b a1 a2 b1 b2 c1 c2 d1 d2 u1 u2 v1 v2 x1 x2 y1 y2 O1 O2 O3 O4 hu1 hu2 hv1 hv2 hx1 hx2 hy1 hy2 hO1 hO2 hO3 hO4 w'
  clear hI hu1 hu2 hv1 hv2 hx1 hx2 hy1 hy2 hO1 hO2 hO3 hO4
  obtain ⟨p1, p2, q1, q2⟩ := O4
  dsimp only at cC ⊢
  go_enter Try.func9, Try.ntmps9
  go_upto_region 1 with fail
  refine wp_region_gw_tail 8 (by kernel_rfl) (by kernel_rfl) ?_
  simp only [List.take_succ_cons, List.take_zero, List.drop_succ_cons, List.drop_zero]
  repeat (go_big_quiet_step ((first | (go_at_call 24; exact gw_call (xsgsat_b _ _ _)) | (go_at_call 16; (first | (exact gw_call (boolIs (xisct_b _ _ _ _ _ _ _ _ _) (b := true) (by assumption))) | (exact gw_call (boolIs (xisct_b _ _ _ _ _ _ _ _ _) (b := false) (by assumption))) | (exact gw_call (xisct_b _ _ _ _ _ _ _ _ _)))) | (go_at_call 25; exact gw_call (xscr_b _ _ _ _ _ _ _ _ (by with_reducible assumption) (by with_reducible assumption) (by with_reducible assumption) (by with_reducible assumption) (by with_reducible assumption) (by with_reducible assumption) (by with_reducible assumption) (by with_reducible assumption) _)))))
  refine wpQuiet_nil ?_
  intro w1 hw1
  obtain ⟨q, rfl⟩ := hw1
  go_upto_region 6 with (first
    | (go_at_call 16; refine Calls.mono (gw_at (cI _)) ?_; rintro e w1 ⟨rfl, qi, rfl⟩)
    | (go_at_call 26; refine Calls.mono (gw_at (cC _)) ?_; rintro e w1 ⟨rfl, qc, rfl⟩))
  refine wp_named ?_
  intro W hW
  have hbW : Below w.heap.size w W := by rw [hW]; exact (by repeat (first | with_reducible exact Below.refl _ _ | with_reducible assumption | refine bgw ?_ (by first | (simp; done) | (simp; omega) | omega) _ | refine Below.setCell ?_ (by first | exact Nat.le_of_not_lt (by assumption) | (simp; done) | (simp; omega) | omega) _ | refine Below.alloc ?_ (by first | (simp; done) | (simp; omega) | omega) _ | refine Below.drew ?_))
  have kP : blk W (w.heap.size + 1 + 1 + 1 + 1 + 1 + 1 + q.os.size + qi.os.size + qc.os.size) #[.int .i64 p1, .int .i64 p2, .int .i64 q1, .int .i64 q2] 44 := by rw [hW]; exact (by repeat (first | with_reducible exact blk_new _ _ _ | ((with_reducible refine blk_at ?_); (simp; done)) | with_reducible apply blk_alloc | with_reducible apply blk_gw | with_reducible apply blk_drew))
  have k8 : blk W (w.heap.size + 1 + 1 + 1 + 1) #[.int .i64 0, .int .i64 0] 23 := by rw [hW]; exact (by repeat (first | with_reducible exact blk_new _ _ _ | ((with_reducible refine blk_at ?_); (simp; done)) | with_reducible apply blk_alloc | with_reducible apply blk_gw | with_reducible apply blk_drew))
  have k9 : blk W (w.heap.size + 1 + 1 + 1 + 1 + 1) #[.int .i64 0, .int .i64 0] 23 := by rw [hW]; exact (by repeat (first | with_reducible exact blk_new _ _ _ | ((with_reducible refine blk_at ?_); (simp; done)) | with_reducible apply blk_alloc | with_reducible apply blk_gw | with_reducible apply blk_drew))
  clear hW
  have hszW := hbW.size
  have h08 : w.heap.size ≤ w.heap.size + 1 + 1 + 1 + 1 := by omega
  have h89 : w.heap.size + 1 + 1 + 1 + 1 < w.heap.size + 1 + 1 + 1 + 1 + 1 := by omega
  have h09 : w.heap.size ≤ w.heap.size + 1 + 1 + 1 + 1 + 1 := by omega
  have h9P : w.heap.size + 1 + 1 + 1 + 1 + 1 < w.heap.size + 1 + 1 + 1 + 1 + 1 + 1 + q.os.size + qi.os.size + qc.os.size := by omega
  generalize w.heap.size + 1 + 1 + 1 + 1 + 1 + 1 + q.os.size + qi.os.size + qc.os.size = bP at *
  generalize w.heap.size + 1 + 1 + 1 + 1 + 1 = B9 at *
  generalize w.heap.size + 1 + 1 + 1 + 1 = B8 at *
  have okP := blk_older kP
  have ckP_0 : _ = some _ := blk_cell kP 0
  have ckP_1 : _ = some _ := blk_cell kP 1
  have ckP_2 : _ = some _ := blk_cell kP 2
  have ckP_3 : _ = some _ := blk_cell kP 3
  have fkP_0 := blk_free kP 0
  have fkP_1 := blk_free kP 1
  have fkP_2 := blk_free kP 2
  have fkP_3 := blk_free kP 3
  have ok8 := blk_older k8
  have ck8_0 : _ = some _ := blk_cell k8 0
  have ck8_1 : _ = some _ := blk_cell k8 1
  have fk8_0 := blk_free k8 0
  have fk8_1 := blk_free k8 1
  have ok9 := blk_older k9
  have ck9_0 : _ = some _ := blk_cell k9 0
  have ck9_1 : _ = some _ := blk_cell k9 1
  have fk9_0 := blk_free k9 0
  have fk9_1 := blk_free k9 1
  have m8 : blk ((W.setCell ⟨B8, 0, none⟩ (.int .i64 p1)).setCell ⟨B8, 1, none⟩ (.int .i64 p2)) B8 #[.int .i64 p1, .int .i64 p2] 23 := (by apply blk_of; (repeat (first | with_reducible exact k8 | with_reducible apply blk_drew | with_reducible apply blk_gw | with_reducible apply blk_alloc | with_reducible apply blk_set | ((with_reducible apply blk_other); focus omega))); (first | rfl | simp))
  have mP : blk ((W.setCell ⟨B8, 0, none⟩ (.int .i64 p1)).setCell ⟨B8, 1, none⟩ (.int .i64 p2)) bP #[.int .i64 p1, .int .i64 p2, .int .i64 q1, .int .i64 q2] 44 := (by apply blk_of; (repeat (first | with_reducible exact kP | with_reducible apply blk_drew | with_reducible apply blk_gw | with_reducible apply blk_alloc | with_reducible apply blk_set | ((with_reducible apply blk_other); focus omega))); (first | rfl | simp))
  have m9 : blk ((W.setCell ⟨B8, 0, none⟩ (.int .i64 p1)).setCell ⟨B8, 1, none⟩ (.int .i64 p2)) B9 #[.int .i64 0, .int .i64 0] 23 := (by apply blk_of; (repeat (first | with_reducible exact k9 | with_reducible apply blk_drew | with_reducible apply blk_gw | with_reducible apply blk_alloc | with_reducible apply blk_set | ((with_reducible apply blk_other); focus omega))); (first | rfl | simp))
  have omP := blk_older mP
  have cmP_0 : _ = some _ := blk_cell mP 0
  have cmP_1 : _ = some _ := blk_cell mP 1
  have cmP_2 : _ = some _ := blk_cell mP 2
  have cmP_3 : _ = some _ := blk_cell mP 3
  have fmP_0 := blk_free mP 0
  have fmP_1 := blk_free mP 1
  have fmP_2 := blk_free mP 2
  have fmP_3 := blk_free mP 3
  have om9 := blk_older m9
  have cm9_0 : _ = some _ := blk_cell m9 0
  have cm9_1 : _ = some _ := blk_cell m9 1
  have fm9_0 := blk_free m9 0
  have fm9_1 := blk_free m9 1
  go_region
  go_wp2_with fail
  refine post_named ?_
  intro Z hZ
  have z8 : blk Z B8 #[.int .i64 p1, .int .i64 p2] 23 := by rw [hZ]; exact (by apply blk_of; (repeat (first | with_reducible exact m8 | with_reducible apply blk_drew | with_reducible apply blk_gw | with_reducible apply blk_alloc | with_reducible apply blk_set | ((with_reducible apply blk_other); focus omega))); (first | rfl | simp))
  have z9 : blk Z B9 #[.int .i64 q1, .int .i64 q2] 23 := by rw [hZ]; exact (by apply blk_of; (repeat (first | with_reducible exact m9 | with_reducible apply blk_drew | with_reducible apply blk_gw | with_reducible apply blk_alloc | with_reducible apply blk_set | ((with_reducible apply blk_other); focus omega))); (first | rfl | simp))
  have hbZ : Below w.heap.size w Z := by rw [hZ]; exact (by repeat (first | with_reducible exact Below.refl _ _ | with_reducible assumption | refine bgw ?_ (by first | (simp; done) | (simp; omega) | omega) _ | refine Below.setCell ?_ (by first | exact Nat.le_of_not_lt (by assumption) | (simp; done) | (simp; omega) | omega) _ | refine Below.alloc ?_ (by first | (simp; done) | (simp; omega) | omega) _ | refine Below.drew ?_))
  clear hZ
  have oz8 := blk_older z8
  have cz8_0 : _ = some _ := blk_cell z8 0
  have cz8_1 : _ = some _ := blk_cell z8 1
  have fz8_0 := blk_free z8 0
  have fz8_1 := blk_free z8 1
  have oz9 := blk_older z9
  have cz9_0 : _ = some _ := blk_cell z9 0
  have cz9_1 : _ = some _ := blk_cell z9 1
  have fz9_0 := blk_free z9 0
  have fz9_1 := blk_free z9 1
  exact bodyPost_ret (v := .tuple #[.agg #[.int .i64 p1, .int .i64 p2], .agg #[.int .i64 q1, .int .i64 q2]]) (by simp [results, Try.results9, go_sem, cz8_0, cz8_1, cz9_0, cz9_1]) rfl ⟨rfl, hbZ⟩

theorem xcps_b (ax ay bx b_y cx cy dx dy : Int) (w : World) : Calls Try.prog 9 #[.agg #[.int .i64 ax, .int .i64 ay], .agg #[.int .i64 bx, .int .i64 b_y], .agg #[.int .i64 cx, .int .i64 cy], .agg #[.int .i64 dx, .int .i64 dy]] w fun e w' => e = .returned (.tuple #[.agg #[.int .i64 (cps ax ay bx b_y cx cy dx dy).px, .int .i64 (cps ax ay bx b_y cx cy dx dy).py], .agg #[.int .i64 (cps ax ay bx b_y cx cy dx dy).qx, .int .i64 (cps ax ay bx b_y cx cy dx dy).qy]]) ∧ Below w.heap.size w w' := by
  have e := cps_ss ax ay bx b_y cx cy dx dy
  have i := isct_ss ax ay bx b_y cx cy dx dy
  cases h : isct ax ay bx b_y cx cy dx dy
  · have := xcps0_b (sat ax) (sat ay) (sat bx) (sat b_y) (sat cx) (sat cy) (sat dx) (sat dy) ax ay bx b_y cx cy dx dy rfl rfl rfl rfl rfl rfl rfl rfl (i.trans h) w
    rw [e] at this; exact this
  · have := xcps1_b (sat ax) (sat ay) (sat bx) (sat b_y) (sat cx) (sat cy) (sat dx) (sat dy) ax ay bx b_y cx cy dx dy rfl rfl rfl rfl rfl rfl rfl rfl (i.trans h) w
    rw [e] at this; exact this

theorem xsdist_b (ax ay bx b_y cx cy dx dy : Int) (w : World) : Calls Try.prog 11 #[.agg #[.int .i64 ax, .int .i64 ay], .agg #[.int .i64 bx, .int .i64 b_y], .agg #[.int .i64 cx, .int .i64 cy], .agg #[.int .i64 dx, .int .i64 dy]] w fun e w' => e = .returned (.int .i64 (sdist ax ay bx b_y cx cy dx dy)) ∧ Below w.heap.size w w' := by
  have cC := fun w' => xcps_b ax ay bx b_y cx cy dx dy w'
  rw [sdist_all]
  generalize cps ax ay bx b_y cx cy dx dy = C at *
  have hd := dist2_in C.px C.py C.qx C.qy
  go_enter Try.func11, Try.ntmps11
  go_wp2_with (first
    | (go_at_call 9; refine Calls.mono (gw_at (cC _)) ?_; rintro e w1 ⟨rfl, q, rfl⟩)
    | (go_at_call 33; refine Calls.mono (gw_at (dist2_b _ _ _ _ _)) ?_; rintro e w1 ⟨rfl, q, rfl⟩)
    | (go_at_call 32; refine Calls.mono (gw_at (isq_b _ _)) ?_; rintro e w1 ⟨rfl, q, rfl⟩)
    | (go_at_call 22; refine Calls.mono (gw_at (sat_b _ _)) ?_; rintro e w1 ⟨rfl, q, rfl⟩))
  go_ret
  exact ⟨rfl, (by repeat (first | with_reducible exact Below.refl _ _ | with_reducible assumption | refine bgw ?_ (by first | (simp; done) | (simp; omega) | omega) _ | refine Below.setCell ?_ (by first | exact Nat.le_of_not_lt (by assumption) | (simp; done) | (simp; omega) | omega) _ | refine Below.alloc ?_ (by first | (simp; done) | (simp; omega) | omega) _ | refine Below.drew ?_))⟩

end Go.Proofs.Ytconfbdnhalmoaa
