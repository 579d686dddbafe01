/- Contracts of package clip. -/
import Derived.Test.YtiecpebckmihgaaGreatFixRA
import Derived.Test.YtiecpebckmihgaaGreatFixQP
set_option linter.unusedVariables false
namespace Go.Proofs.YtiecpebckmihgaaGreat
open Go.RowKit Fx

set_option maxHeartbeats 1000000 in
theorem ycut_b (vx vy vi ux uy ui d e : Int) (hd : -536870911 ≤ d ∧ d ≤ 536870911) (he : -536870911 ≤ e ∧ e ≤ 536870911) (w : World) : Calls Tryz.prog 164 #[.agg #[.int .i64 vx, .int .i64 vy, .int .i64 vi], .agg #[.int .i64 ux, .int .i64 uy], .int .i64 d, .int .i64 e] w fun r w' => r = .returned (.agg #[.int .i64 (hpA ⟨vx, vy, vi⟩ ⟨ux, uy, ui⟩ d e).x, .int .i64 (hpA ⟨vx, vy, vi⟩ ⟨ux, uy, ui⟩ d e).y, .int .i64 (hpA ⟨vx, vy, vi⟩ ⟨ux, uy, ui⟩ d e).id]) ∧ Below w.heap.size w w' := by
  have c5 := fun w' => rt_b d (d - e) w'
  have c7 := fun w' => vlerp_b vx vy ux uy (ratio d (d - e)) w'
  by_cases n1 : 0 < d
  · rw [show hpA ⟨vx, vy, vi⟩ ⟨ux, uy, ui⟩ d e = ⟨lerp vx ux (ratio d (d - e)), lerp vy uy (ratio d (d - e)), vi⟩ from if_pos n1]
    dsimp only
    generalize ratio d (d - e) = r at *
    generalize lerp vx ux r = lx at *
    generalize lerp vy uy r = ly at *
    go_enter Tryz.func164, Tryz.ntmps164
    go_wp2_with fail
    refine wp_region_gw_tail 10 (by kernel_rfl) (by kernel_rfl) ?_
    simp only [List.take_succ_cons, List.take_zero, List.drop_succ_cons, List.drop_zero]
    repeat (go_big_quiet_step ((first | (go_at_call 120; with_reducible_and_instances exact gw_call (c5 _)) | (go_at_call 119; with_reducible_and_instances exact gw_call (c7 _)))))
    refine wpQuiet_nil ?_
    intro w1 hw1
    obtain ⟨q, rfl⟩ := hw1
    go_wp2_with fail
    exact bodyPost_ret (v := .agg #[.int .i64 lx, .int .i64 ly, .int .i64 vi]) (by simp [results, Tryz.results164, go_sem]; try (first | with_reducible rfl | exact ⟨rfl, rfl⟩ | exact ⟨rfl, rfl, rfl⟩ | exact ⟨rfl, rfl, rfl, rfl⟩ | exact ⟨rfl, rfl, rfl, rfl, rfl⟩ | exact ⟨rfl, rfl, rfl, rfl, rfl, rfl⟩ | rfl)) rfl ⟨rfl, bBel⟩
  · rw [show hpA ⟨vx, vy, vi⟩ ⟨ux, uy, ui⟩ d e = ⟨vx, vy, vi⟩ from if_neg n1]
    dsimp only
    clear c5 c7
    go_enter Tryz.func164, Tryz.ntmps164
    go_wp2_with fail
    exact bodyPost_ret (v := .agg #[.int .i64 vx, .int .i64 vy, .int .i64 vi]) (by simp [results, Tryz.results164, go_sem]; try (first | with_reducible rfl | exact ⟨rfl, rfl⟩ | exact ⟨rfl, rfl, rfl⟩ | exact ⟨rfl, rfl, rfl, rfl⟩ | exact ⟨rfl, rfl, rfl, rfl, rfl⟩ | exact ⟨rfl, rfl, rfl, rfl, rfl, rfl⟩ | rfl)) rfl ⟨rfl, bBel⟩

theorem yhasT_b (A : Option Addr) (cap : Nat) (ps : List (Int × Int)) (i : Int) (h : eOK ps i) (w : World) : Calls Tryz.prog 150 #[.slice A ps.length cap, .int .i64 i] w fun e w' => e = .returned (.bool true) ∧ Below w.heap.size w w' := by
  obtain ⟨h2, h0, h1⟩ := h
  have n2 : (2 : Int) ≤ (ps.length : Int) := by omega
  clear h2
  go_enter Tryz.func150, Tryz.ntmps150
  go_wp2_with fail
  all_goals (go_ret; refine ⟨?_, bBel⟩; first | rfl | (simp; done) | (simp; omega) | (simp; rw [Bool.eq_iff_iff]; first | (simp; done) | (simp; omega)))

theorem yhasF_b (A : Option Addr) (cap : Nat) (ps : List (Int × Int)) (i : Int) (h : ¬ eOK ps i) (w : World) : Calls Tryz.prog 150 #[.slice A ps.length cap, .int .i64 i] w fun e w' => e = .returned (.bool false) ∧ Below w.heap.size w w' := by
  have hc : ¬ (2 : Int) ≤ (ps.length : Int) ∨ ((2 : Int) ≤ (ps.length : Int) ∧ ¬ 0 ≤ i) ∨ ((2 : Int) ≤ (ps.length : Int) ∧ 0 ≤ i ∧ ¬ i < (ps.length : Int)) := by unfold eOK at h; omega
  clear h
  rcases hc with c | ⟨c, d⟩ | ⟨c, d, f⟩
  all_goals
    go_enter Tryz.func150, Tryz.ntmps150
    go_wp2_with fail
    all_goals (go_ret; refine ⟨?_, bBel⟩; first | rfl | (simp; done) | (simp; omega) | (simp; rw [Bool.eq_iff_iff]; first | (simp; done) | (simp; omega)))

theorem yend_b (A : Option Addr) (cap : Nat) (ps : List (Int × Int)) (k : Nat) (hk : k < ps.length) (hl : ps.length ≤ 4611686018427387904) (w : World) (ha : Pts w A ps) : Calls Tryz.prog 152 #[.slice A ps.length cap, .int .i64 (k : Int)] w fun e w' => e = .returned (.agg #[.int .i64 (hp' ps (k + 1)).1, .int .i64 (hp' ps (k + 1)).2]) ∧ Below w.heap.size w w' := by
  have hm := mod_next (k := k) (show 0 < ps.length by omega)
  have hmod := Nat.mod_lt (k + 1) (show 0 < ps.length by omega)
  have hnz : ((ps.length : Int) == 0) = false := by rw [beq_eq_false_iff_ne]; omega
  obtain ⟨b, off, rfl, hc⟩ := pts_open0 ha (by omega)
  rw [← hp_mod ps (k + 1)]
  generalize (k + 1) % ps.length = nx at *
  rw [hp_get hmod]
  have x0 : (0 : Int) ≤ (nx : Int) := by omega
  have x1 : (nx : Int) < (ps.length : Int) := by omega
  obtain ⟨f0, f1⟩ := hc nx hmod
  have ob := older_of_cell f0
  have kmax : (k : Int) + 1 ≤ (ps.length : Int) := by omega
  clear hc ha
  generalize ps[nx].1 = xn at *
  generalize ps[nx].2 = yn at *
  go_enter Tryz.func152, Tryz.ntmps152
  go_wp2_with fail
  exact bodyPost_ret (v := .agg #[.int .i64 xn, .int .i64 yn]) (by simp [results, Tryz.results152, go_sem]; try (first | with_reducible rfl | exact ⟨rfl, rfl⟩ | exact ⟨rfl, rfl, rfl⟩ | exact ⟨rfl, rfl, rfl, rfl⟩ | exact ⟨rfl, rfl, rfl, rfl, rfl⟩ | exact ⟨rfl, rfl, rfl, rfl, rfl, rfl⟩ | rfl)) rfl ⟨rfl, bBel⟩

set_option maxRecDepth 100000 in
set_option maxHeartbeats 8000000 in
theorem yhalf2_b (A : Option Addr) (cap : Nat) (v u : Vtx) (ox oy nx ny : Int) (w : World) (ha : Vts w A [v, u]) : Calls Tryz.prog 153 #[.slice A 2 cap, .agg #[.int .i64 ox, .int .i64 oy], .agg #[.int .i64 nx, .int .i64 ny]] w (VtxR w (hpE v u (hpD v ox oy nx ny) (hpD u ox oy nx ny))) := by
  obtain ⟨b, off, rfl, hc⟩ := vts_cells ha
  obtain ⟨d0, d1, d2, d3, d4, d5⟩ := hc w (Below.refl _ _)
  have od := older_of_cell d0
  clear ha
  have b1 := hdot_in nx ny (sub v.x ox) (sub v.y oy)
  have b2 := hdot_in nx ny (sub u.x ox) (sub u.y oy)
  have c1 := fun w' => vsub_b v.x v.y ox oy w'
  have c2 := fun w' => vsub_b u.x u.y ox oy w'
  have c3 := fun w' => dot_b nx ny (sub v.x ox) (sub v.y oy) w'
  have c4 := fun w' => dot_b nx ny (sub u.x ox) (sub u.y oy) w'
  unfold hpD
  generalize hd : dot nx ny (sub v.x ox) (sub v.y oy) = d at *
  generalize he : dot nx ny (sub u.x ox) (sub u.y oy) = e at *
  clear hd he
  generalize sub v.x ox = s1 at *
  generalize sub v.y oy = s2 at *
  generalize sub u.x ox = s3 at *
  generalize sub u.y oy = s4 at *
  obtain ⟨vx, vy, vi⟩ := v
  obtain ⟨ux, uy, ui⟩ := u
  dsimp only at hc d0 d1 d2 d3 d4 d5 c1 c2
  obtain ⟨L, hL⟩ : ∃ L, Hid (hpE ⟨vx, vy, vi⟩ ⟨ux, uy, ui⟩ d e = L) := ⟨_, rfl⟩
  rw [hL.out]
  go_enter Tryz.func153, Tryz.ntmps153
  go_upto_region 3 with fail
  refine wp_named ?_
  intro W hW
  have kO : blk W w.heap.size #[.int .i64 ox, .int .i64 oy] 27 := by rw [hW]; exact bBkn
  have kN : blk W (w.heap.size + 1) #[.int .i64 nx, .int .i64 ny] 27 := by rw [hW]; exact bBkn
  have hbW : Below w.heap.size w W := by rw [hW]; exact bBel
  clear hW
  have hszW := hbW.size
  have hcellB : ∀ w', Below W.heap.size W w' → Below W.heap.size W w' ∧ w'.cell? ⟨b, off, none⟩ = some (.int .i64 vx) ∧ w'.cell? ⟨b, off + 1, none⟩ = some (.int .i64 vy) ∧ w'.cell? ⟨b, off + 2, none⟩ = some (.int .i64 vi) ∧ w'.cell? ⟨b, off + 3, none⟩ = some (.int .i64 ux) ∧ w'.cell? ⟨b, off + 4, none⟩ = some (.int .i64 uy) ∧ w'.cell? ⟨b, off + 5, none⟩ = some (.int .i64 ui) := fun w' h => ⟨h, hc w' (Below.trans hbW (h.mono hszW))⟩
  clear d0 d1 d2 d3 d4 d5 od
  obtain ⟨-, d0, d1, d2, d3, d4, d5⟩ := hcellB _ (Below.refl _ W)
  go_cut [7, 8] (fun fr tp wx => ∃ E F : Nat, fr = .pointer (some ⟨E, 0, none⟩) ∧ tp = .pointer (some ⟨F, 0, none⟩) ∧ W.heap.size ≤ E ∧ W.heap.size ≤ F ∧ blk wx E #[.int .i64 vx, .int .i64 vy, .int .i64 vi] 117 ∧ blk wx F #[.int .i64 ux, .int .i64 uy, .int .i64 ui] 117 ∧ Below W.heap.size W wx)
  case first =>
    go_region_held3 (fun w' => Below W.heap.size W w' ∧ w'.cell? ⟨b, off, none⟩ = some (.int .i64 vx) ∧ w'.cell? ⟨b, off + 1, none⟩ = some (.int .i64 vy) ∧ w'.cell? ⟨b, off + 2, none⟩ = some (.int .i64 vi) ∧ w'.cell? ⟨b, off + 3, none⟩ = some (.int .i64 ux) ∧ w'.cell? ⟨b, off + 4, none⟩ = some (.int .i64 uy) ∧ w'.cell? ⟨b, off + 5, none⟩ = some (.int .i64 ui)) (first | (refine hcellB _ ?_; exact bBel)) (fail)
    all_goals
      go_wp2_with fail
    all_goals
      go_meet
      exact ⟨_, _, rfl, rfl, by omega, by omega, bBkn, bBkn, bBel⟩
  case rest =>
  obtain ⟨E, F, rfl, rfl, nE, nF, kE, kF, hbX⟩ := hcut
  generalize wc = X at *
  have kO2 := blk_below hbX kO
  have kN2 := blk_below hbX kN
  have hbX2 : Below w.heap.size w X := Below.trans hbW (hbX.mono hszW)
  clear d0 d1 d2 d3 d4 d5 hcellB hc kO kN hbX hbW
  have hszX := hbX2.size
  have okO2 := blk_older kO2
  have ckO2_0 : _ = some _ := blk_cell kO2 0
  have ckO2_1 : _ = some _ := blk_cell kO2 1
  have fkO2_0 := blk_free kO2 0
  have fkO2_1 := blk_free kO2 1
  have okN2 := blk_older kN2
  have ckN2_0 : _ = some _ := blk_cell kN2 0
  have ckN2_1 : _ = some _ := blk_cell kN2 1
  have fkN2_0 := blk_free kN2 0
  have fkN2_1 := blk_free kN2 1
  have okE := blk_older kE
  have ckE_0 : _ = some _ := blk_cell kE 0
  have ckE_1 : _ = some _ := blk_cell kE 1
  have ckE_2 : _ = some _ := blk_cell kE 2
  have fkE_0 := blk_free kE 0
  have fkE_1 := blk_free kE 1
  have fkE_2 := blk_free kE 2
  have okF := blk_older kF
  have ckF_0 : _ = some _ := blk_cell kF 0
  have ckF_1 : _ = some _ := blk_cell kF 1
  have ckF_2 : _ = some _ := blk_cell kF 2
  have fkF_0 := blk_free kF 0
  have fkF_1 := blk_free kF 1
  have fkF_2 := blk_free kF 2
  go_wp2_with fail
  refine wp_region_gw (by kernel_rfl) (by kernel_rfl) ?_
  repeat (go_big_quiet_step ((first | (go_at_call 36; with_reducible_and_instances exact gw_call (c1 _)) | (go_at_call 36; with_reducible_and_instances exact gw_call (c2 _)) | (go_at_call 130; with_reducible_and_instances exact gw_call (c3 _)) | (go_at_call 130; with_reducible_and_instances exact gw_call (c4 _)))))
  refine wpQuiet_nil ?_
  intro w1 hw1
  obtain ⟨q, rfl⟩ := hw1
  go_wp2_with fail
  refine wp_region_gw (by kernel_rfl) (by kernel_rfl) ?_
  repeat (go_big_quiet_step ((first | (go_at_call 36; with_reducible_and_instances exact gw_call (c1 _)) | (go_at_call 36; with_reducible_and_instances exact gw_call (c2 _)) | (go_at_call 130; with_reducible_and_instances exact gw_call (c3 _)) | (go_at_call 130; with_reducible_and_instances exact gw_call (c4 _)))))
  refine wpQuiet_nil ?_
  intro w1 hw1
  obtain ⟨q, rfl⟩ := hw1
  clear c1 c2 c3 c4
  by_cases n0 : 0 < d ∧ 0 < e
  · obtain rfl : L = [] := by rw [← hL.out]; exact if_pos n0
    clear hL
    obtain ⟨n1, n2⟩ := n0
    go_wp2_with fail
    go_ret
    exact ⟨⟨none, 0, rfl, by simp, by decide, .inl rfl, fun _ => rfl⟩, bBel⟩
  · obtain rfl : L = [hpA ⟨vx, vy, vi⟩ ⟨ux, uy, ui⟩ d e, hpA ⟨ux, uy, ui⟩ ⟨vx, vy, vi⟩ e d] := by rw [← hL.out]; exact if_neg n0
    clear hL
    have c5 := fun w' => ycut_b vx vy vi ux uy ui d e b1 b2 w'
    have c6 := fun w' => ycut_b ux uy ui vx vy vi e d b2 b1 w'
    generalize hpA ⟨vx, vy, vi⟩ ⟨ux, uy, ui⟩ d e = P at *
    generalize hpA ⟨ux, uy, ui⟩ ⟨vx, vy, vi⟩ e d = R at *
    have n3 : (0 < d ∧ ¬ 0 < e) ∨ ¬ 0 < d := by omega
    clear n0 b1 b2
    rcases n3 with ⟨n1, n2⟩ | n1
    all_goals
      go_wp2_with fail
      refine wp_region_gw_tail 12 (by kernel_rfl) (by kernel_rfl) ?_
      simp only [List.take_succ_cons, List.take_zero, List.drop_succ_cons, List.drop_zero]
      repeat (go_big_quiet_step ((first | (go_at_call 164; with_reducible_and_instances exact gw_call (c5 _)) | (go_at_call 164; with_reducible_and_instances exact gw_call (c6 _)))))
      refine wpQuiet_nil ?_
      intro w1 hw1
      obtain ⟨q, rfl⟩ := hw1
      refine list_nm ?_
      intro Y hY
      have hbY : Below w.heap.size w Y := by rw [hY]; exact bBel
      clear hY
      clear c5 c6 ckE_0 ckE_1 ckE_2 fkE_0 fkE_1 fkE_2 ckF_0 ckF_1 ckF_2 fkF_0 fkF_1 fkF_2 okE okF kE kF
      go_wp2_with fail
      refine post_nmd ?_
      intro Z hZ
      have kZ : blk Z Y.heap.size #[.int .i64 P.x, .int .i64 P.y, .int .i64 P.id, .int .i64 R.x, .int .i64 R.y, .int .i64 R.id] 117 := by rw [hZ]; exact bBkn
      have hbZ : Below w.heap.size w Z := by have := hbY.size; rw [hZ]; exact bBel
      clear hZ
      exact bodyPost_ret (v := .slice (some ⟨Y.heap.size, 0, none⟩) 2 2) (by simp [results, Tryz.results153, go_sem]) rfl ⟨⟨_, 2, rfl, by simp, by decide, vts_two kZ, fun h => by simp at h⟩, hbZ⟩

theorem yhalf_b (A : Option Addr) (cap : Nat) (l : List Vtx) (ox oy nx ny : Int) (w : World) (ha : Vts w A l) : Calls Tryz.prog 153 #[.slice A l.length cap, .agg #[.int .i64 ox, .int .i64 oy], .agg #[.int .i64 nx, .int .i64 ny]] w (VtxR w (hpl l ox oy nx ny)) := by
  by_cases h : l.length = 2
  · obtain ⟨v, u, rfl⟩ := len_2 h
    exact yhalf2_b A cap v u ox oy nx ny w ha
  · rw [hpl_not h]
    have n1 : ((l.length : Int) != 2) = true := by rw [bne_iff_ne]; omega
    clear h
    go_enter Tryz.func153, Tryz.ntmps153
    go_wp2_with fail
    go_ret
    exact ⟨⟨none, 0, rfl, by simp, by decide, .inl rfl, fun _ => rfl⟩, bBel⟩

set_option maxHeartbeats 4000000 in
theorem ytoe0_b (A B_ : Option Addr) (ca cb : Nat) (ps qs : List (Int × Int)) (i k : Int) (h : ¬ (eOK ps i ∧ eOK qs k)) (w : World) : Calls Tryz.prog 129 #[.slice A ps.length ca, .int .i64 i, .slice B_ qs.length cb, .int .i64 k] w (VtxR w []) := by
  have hc : ¬ eOK ps i ∨ (eOK ps i ∧ ¬ eOK qs k) := by
    by_cases h1 : eOK ps i
    · exact .inr ⟨h1, fun h2 => h ⟨h1, h2⟩⟩
    · exact .inl h1
  clear h
  rcases hc with c | ⟨c, d⟩
  · have cA := fun w' => yhasF_b A ca ps i c w'
    clear c
    go_enter Tryz.func129, Tryz.ntmps129
    go_wp2_with (first | (go_at_call 150; with_reducible_and_instances refine Calls.mono (gw_at (cA _)) ?_; rintro e w1 ⟨rfl, q, rfl⟩))
    go_ret
    exact ⟨⟨none, 0, rfl, by simp, by decide, .inl rfl, fun _ => rfl⟩, bBel⟩
  · have cA := fun w' => yhasT_b A ca ps i c w'
    have cB := fun w' => yhasF_b B_ cb qs k d w'
    clear c d
    go_enter Tryz.func129, Tryz.ntmps129
    go_wp2_with (first | (go_at_call 150; with_reducible_and_instances refine Calls.mono (gw_at (cA _)) ?_; rintro e w1 ⟨rfl, q, rfl⟩) | (go_at_call 150; with_reducible_and_instances refine Calls.mono (gw_at (cB _)) ?_; rintro e w1 ⟨rfl, q, rfl⟩))
    go_ret
    exact ⟨⟨none, 0, rfl, by simp, by decide, .inl rfl, fun _ => rfl⟩, bBel⟩

set_option maxRecDepth 100000 in
set_option maxHeartbeats 8000000 in
theorem ytoe1_b (A B_ : Option Addr) (ca cb : Nat) (ps qs : List (Int × Int)) (i k : Nat) (h1 : eOK ps i) (h2 : eOK qs k) (hl : ps.length ≤ 4611686018427387904) (hm : qs.length ≤ 4611686018427387904) (w : World) (ha : Pts w A ps) (hb : Pts w B_ qs) : Calls Tryz.prog 129 #[.slice A ps.length ca, .int .i64 (i : Int), .slice B_ qs.length cb, .int .i64 (k : Int)] w (VtxR w (toE ps i qs k)) := by
  have cD := fun w' h => ydir_b A ca ps (i : Int) hl w' h
  have hD := eDir_in ps (i : Int)
  have cA := fun w' => yhasT_b A ca ps i h1 w'
  have cB := fun w' => yhasT_b B_ cb qs k h2 w'
  obtain ⟨R, hR⟩ : ∃ R, Hid (toE ps i qs k = R) := ⟨_, rfl⟩
  rw [hR.out]
  have hR3 : hpl (hpl [⟨(hp' qs k).1, (hp' qs k).2, 0⟩, ⟨(hp' qs (k + 1)).1, (hp' qs (k + 1)).2, 1⟩] (hp' ps (i + 1)).1 (hp' ps (i + 1)).2 (eDir ps i).1 (eDir ps i).2) (hp' ps i).1 (hp' ps i).2 (-(eDir ps i).1) (-(eDir ps i).2) = R := by
    have := hR.out; unfold toE at this; rw [if_pos ⟨h1, h2⟩] at this; exact this
  clear hR
  obtain ⟨p2, p0, p1⟩ := h1
  obtain ⟨q2, q0, q1⟩ := h2
  have hi : i < ps.length := by omega
  have hk : k < qs.length := by omega
  have cE1 := fun w' h => yend_b A ca ps i hi hl w' h
  have cE2 := fun w' h => yend_b B_ cb qs k hk hm w' h
  obtain ⟨b, off, rfl, hc⟩ := pts_open0 ha (by omega)
  obtain ⟨b', off', rfl, hc'⟩ := pts_open0 hb (by omega)
  rw [hp_get hi, hp_get hk] at hR3
  obtain ⟨d0, d1⟩ := hc i hi
  obtain ⟨f0, f1⟩ := hc' k hk
  have od := older_of_cell d0
  have of := older_of_cell f0
  have x4 : (0 : Int) ≤ (i : Int) := by omega
  have x5 : (i : Int) < (ps.length : Int) := by omega
  have x6 : (0 : Int) ≤ (k : Int) := by omega
  have x7 : (k : Int) < (qs.length : Int) := by omega
  clear hc hc' p0 p1 p2 q0 q1 q2
  generalize ps[i].1 = ax at *
  generalize ps[i].2 = ay at *
  generalize (hp' ps (i + 1)).1 = bx at *
  generalize (hp' ps (i + 1)).2 = b_y at *
  generalize qs[k].1 = cx at *
  generalize qs[k].2 = cy at *
  generalize (hp' qs (k + 1)).1 = dx at *
  generalize (hp' qs (k + 1)).2 = dy at *
  generalize (eDir ps (i : Int)).1 = u at *
  generalize (eDir ps (i : Int)).2 = v at *
  have cH1 : ∀ m w', Vts w' (some ⟨m, 0, none⟩) [⟨cx, cy, 0⟩, ⟨dx, dy, 1⟩] → Calls Tryz.prog 153 #[.slice (some ⟨m, 0, none⟩) 2 2, .agg #[.int .i64 bx, .int .i64 b_y], .agg #[.int .i64 u, .int .i64 v]] w' (VtxR w' (hpl [⟨cx, cy, 0⟩, ⟨dx, dy, 1⟩] bx b_y u v)) := fun m w' h => yhalf_b (some ⟨m, 0, none⟩) 2 [⟨cx, cy, 0⟩, ⟨dx, dy, 1⟩] bx b_y u v w' h
  have cH2 := fun A' cap' w' h => yhalf_b A' cap' (hpl [⟨cx, cy, 0⟩, ⟨dx, dy, 1⟩] bx b_y u v) ax ay (-u) (-v) w' h
  rw [hR3] at cH2
  clear hR3
  generalize hpl [⟨cx, cy, 0⟩, ⟨dx, dy, 1⟩] bx b_y u v = R1 at *
  obtain ⟨⟨hD1, hD2⟩, hD3, hD4⟩ := hD
  have hD : Hid ((-536870911 ≤ u ∧ u ≤ 536870911) ∧ -536870911 ≤ v ∧ v ≤ 536870911) := ⟨⟨hD1, hD2⟩, hD3, hD4⟩
  go_enter Tryz.func129, Tryz.ntmps129
  go_wp2_with (first | (go_at_call 150; with_reducible_and_instances refine Calls.mono (gw_at (cA _)) ?_; rintro e w1 ⟨rfl, q, rfl⟩) | (go_at_call 150; with_reducible_and_instances refine Calls.mono (gw_at (cB _)) ?_; rintro e w1 ⟨rfl, qb, rfl⟩) | (go_at_call 151; with_reducible_and_instances refine Calls.mono (gw_at (cD _ (Pts.to ha bBel))) ?_; rintro e w1 ⟨rfl, qd, rfl⟩))
  refine wp_named ?_
  intro W hW
  have kD : blk W (w.heap.size + q.os.size + qb.os.size + qd.os.size) #[.int .i64 u, .int .i64 v] 27 := by rw [hW]; exact bBkn
  have kN : blk W (w.heap.size + q.os.size + qb.os.size + qd.os.size + 1) #[.int .i64 (-u), .int .i64 (-v)] 27 := by rw [hW]; exact bBkn
  have hbW : Below w.heap.size w W := by rw [hW]; exact bBel
  clear hW cA cB cD hD1 hD2 hD3 hD4 hD
  have hszW := hbW.size
  generalize w.heap.size + q.os.size + qb.os.size + qd.os.size = n at *
  have lt := World.block_lt_of_cell? w ⟨b, off + i * 2, none⟩ d0
  replace d0 := (hbW.cell (p := ⟨b, off + i * 2, none⟩) lt).trans d0
  replace d1 := (hbW.cell (p := ⟨b, off + i * 2 + 1, none⟩) lt).trans d1
  have lt' := World.block_lt_of_cell? w ⟨b', off' + k * 2, none⟩ f0
  replace f0 := (hbW.cell (p := ⟨b', off' + k * 2, none⟩) lt').trans f0
  replace f1 := (hbW.cell (p := ⟨b', off' + k * 2 + 1, none⟩) lt').trans f1
  replace od := older_of_cell d0
  replace of := older_of_cell f0
  clear lt lt'
  have haW := Pts.to ha hbW
  have hbPW := Pts.to hb hbW
  have okD := blk_older kD
  have ckD_0 : _ = some _ := blk_cell kD 0
  have ckD_1 : _ = some _ := blk_cell kD 1
  have fkD_0 := blk_free kD 0
  have fkD_1 := blk_free kD 1
  have okN := blk_older kN
  have ckN_0 : _ = some _ := blk_cell kN 0
  have ckN_1 : _ = some _ := blk_cell kN 1
  have fkN_0 := blk_free kN 0
  have fkN_1 := blk_free kN 1
  refine wp_region_gw_tail 9 (by kernel_rfl) (by kernel_rfl) ?_
  simp only [List.take_succ_cons, List.take_zero, List.drop_succ_cons, List.drop_zero]
  repeat (go_big_quiet_step ((first | (go_at_call 152; with_reducible_and_instances exact gw_call (cE2 _ (Pts.to hbPW bBel))))))
  refine wpQuiet_nil ?_
  intro w1 hw1
  obtain ⟨q, rfl⟩ := hw1
  refine list_nm ?_
  intro X hX
  have hbX : Below W.heap.size W X := by rw [hX]; exact bBel
  have hbX0 : Below w.heap.size w X := by rw [hX]; exact bBel
  have kD1 : blk X n #[.int .i64 u, .int .i64 v] 27 := by rw [hX]; exact (by apply blk_of; (repeat (first | with_reducible exact kD | with_reducible apply blk_drew | with_reducible apply blk_gw | with_reducible apply blk_alloc | with_reducible apply blk_set | ((with_reducible apply blk_other); focus omega))); (first | rfl | simp))
  have kN1 : blk X (n + 1) #[.int .i64 (-u), .int .i64 (-v)] 27 := by rw [hX]; exact (by apply blk_of; (repeat (first | with_reducible exact kN | with_reducible apply blk_drew | with_reducible apply blk_gw | with_reducible apply blk_alloc | with_reducible apply blk_set | ((with_reducible apply blk_other); focus omega))); (first | rfl | simp))
  clear hX f0 f1 of ckD_0 ckD_1 fkD_0 fkD_1 ckN_0 ckN_1 fkN_0 fkN_1 okD okN kD kN cE2
  go_upto_region 6 with fail
  refine wp_named ?_
  intro V hV
  have kS : blk V X.heap.size #[.int .i64 cx, .int .i64 cy, .int .i64 0, .int .i64 dx, .int .i64 dy, .int .i64 1] 117 := by rw [hV]; exact bBkn
  have kD2 : blk V n #[.int .i64 u, .int .i64 v] 27 := by rw [hV]; exact (by apply blk_of; (repeat (first | with_reducible exact kD1 | with_reducible apply blk_drew | with_reducible apply blk_gw | with_reducible apply blk_alloc | with_reducible apply blk_set | ((with_reducible apply blk_other); focus omega))); (first | rfl | simp))
  have kN2 : blk V (n + 1) #[.int .i64 (-u), .int .i64 (-v)] 27 := by rw [hV]; exact (by apply blk_of; (repeat (first | with_reducible exact kN1 | with_reducible apply blk_drew | with_reducible apply blk_gw | with_reducible apply blk_alloc | with_reducible apply blk_set | ((with_reducible apply blk_other); focus omega))); (first | rfl | simp))
  have hbV : Below W.heap.size W V := by have := hbX.size; rw [hV]; exact bBel
  have hbV2 : Below w.heap.size w V := by have := hbX0.size; rw [hV]; exact bBel
  clear hV kD1 kN1
  have lt := World.block_lt_of_cell? W ⟨b, off + i * 2, none⟩ d0
  replace d0 := (hbV.cell (p := ⟨b, off + i * 2, none⟩) lt).trans d0
  replace d1 := (hbV.cell (p := ⟨b, off + i * 2 + 1, none⟩) lt).trans d1
  replace od := older_of_cell d0
  have haV := Pts.to haW hbV
  clear lt hbV hbX hbX0 hbW hszW haW hbPW
  have hszV := hbV2.size
  generalize X.heap.size = m at *
  have hS : Vts V (some ⟨m, 0, none⟩) [⟨cx, cy, 0⟩, ⟨dx, dy, 1⟩] := vts_two kS
  have cS := fun w' (h : Below V.heap.size V w') => cH1 m w' (Vts.to hS h)
  clear cH1 hS kS
  have okD2 := blk_older kD2
  have ckD2_0 : _ = some _ := blk_cell kD2 0
  have ckD2_1 : _ = some _ := blk_cell kD2 1
  have fkD2_0 := blk_free kD2 0
  have fkD2_1 := blk_free kD2 1
  have okN2 := blk_older kN2
  have ckN2_0 : _ = some _ := blk_cell kN2 0
  have ckN2_1 : _ = some _ := blk_cell kN2 1
  have fkN2_0 := blk_free kN2 0
  have fkN2_1 := blk_free kN2 1
  first
    | (refine wp_mix 11 [0, 0, 3, 7, 15, 0, 0, 96, 224, 511, 1023] [] [0, 1, 2, 3, 4, 5, 6, 7, 8, 9, 10] (by kernel_rfl) (by decide +kernel) ?_
       repeat (first | (refine mix_skip (by rfl) (by rfl) (by rfl) (by rfl) ?_) | (refine mix_early (by rfl) (by rfl) (by rfl) ?_; go_big_quiet_step (fail); with_reducible refine wpQuiet_nil ?_) | (refine mix_late (by rfl) (by rfl) (by rfl) ?_; go_big_quiet_step (fail); with_reducible refine wpQuiet_nil ?_) | (refine mix_call (by rfl) (by rfl) (by rfl) ?_; intro pM Qs hQs; go_wp2_with (first | (go_at_call 152; with_reducible_and_instances refine Calls.mono (gw_at (cE1 _ (Pts.to haV bBel))) ?_; rintro e w1 ⟨rfl, qe, rfl⟩) | (go_at_call 153; with_reducible_and_instances refine Calls.mono (vtxr_ex (cS _ bBel)) ?_; rintro e w1 ⟨⟨A1, k1, rfl, hle1, hmx1, hV1, hnil1⟩, q1, rfl⟩) | (go_at_call 153; with_reducible_and_instances refine Calls.mono (vtxr_ex (cH2 _ _ _ (Vts.to hV1 bBel))) ?_; rintro e w1 ⟨⟨A2, k2, rfl, hle2, hmx2, hV2, hnil2⟩, q2, rfl⟩)); refine hQs _ _ bBel ?_))
       refine mix_end ?_
       intro pE
       simp only [List.drop_succ_cons, List.drop_zero])
    | (refine wp_mix 13 [0, 0, 0, 6, 0, 31, 0, 0, 192, 448, 0, 2047, 4095] [] [0, 1, 2, 3, 4, 5, 6, 7, 8, 9, 10, 11, 12] (by kernel_rfl) (by decide +kernel) ?_
       repeat (first | (refine mix_skip (by rfl) (by rfl) (by rfl) (by rfl) ?_) | (refine mix_early (by rfl) (by rfl) (by rfl) ?_; go_big_quiet_step (fail); with_reducible refine wpQuiet_nil ?_) | (refine mix_late (by rfl) (by rfl) (by rfl) ?_; go_big_quiet_step (fail); with_reducible refine wpQuiet_nil ?_) | (refine mix_call (by rfl) (by rfl) (by rfl) ?_; intro pM Qs hQs; go_wp2_with (first | (go_at_call 152; with_reducible_and_instances refine Calls.mono (gw_at (cE1 _ (Pts.to haV bBel))) ?_; rintro e w1 ⟨rfl, qe, rfl⟩) | (go_at_call 153; with_reducible_and_instances refine Calls.mono (vtxr_ex (cS _ bBel)) ?_; rintro e w1 ⟨⟨A1, k1, rfl, hle1, hmx1, hV1, hnil1⟩, q1, rfl⟩) | (go_at_call 153; with_reducible_and_instances refine Calls.mono (vtxr_ex (cH2 _ _ _ (Vts.to hV1 bBel))) ?_; rintro e w1 ⟨⟨A2, k2, rfl, hle2, hmx2, hV2, hnil2⟩, q2, rfl⟩)); refine hQs _ _ bBel ?_))
       refine mix_end ?_
       intro pE
       simp only [List.drop_succ_cons, List.drop_zero])
  go_wp2_with fail
  go_ret
  exact ⟨⟨_, _, rfl, hle2, hmx2, Vts.to hV2 bBel, hnil2⟩, bBel⟩

theorem ytoe_b (A B_ : Option Addr) (ca cb : Nat) (ps qs : List (Int × Int)) (i k : Int) (hl : ps.length ≤ 4611686018427387904) (hm : qs.length ≤ 4611686018427387904) (w : World) (ha : Pts w A ps) (hb : Pts w B_ qs) : Calls Tryz.prog 129 #[.slice A ps.length ca, .int .i64 i, .slice B_ qs.length cb, .int .i64 k] w (VtxR w (toE ps i qs k)) := by
  by_cases h : eOK ps i ∧ eOK qs k
  · obtain ⟨i', rfl⟩ : ∃ i' : Nat, i = (i' : Int) := ⟨i.toNat, by have := h.1; unfold eOK at this; omega⟩
    obtain ⟨k', rfl⟩ : ∃ k' : Nat, k = (k' : Int) := ⟨k.toNat, by have := h.2; unfold eOK at this; omega⟩
    exact ytoe1_b A B_ ca cb ps qs i' k' h.1 h.2 hl hm w ha hb
  · rw [toE_not h]; exact ytoe0_b A B_ ca cb ps qs i k h w

end Go.Proofs.YtiecpebckmihgaaGreat
