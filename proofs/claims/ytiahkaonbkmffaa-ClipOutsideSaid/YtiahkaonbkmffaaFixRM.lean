/- Laws of chapter 15: ClipSymmetric, ClipOutside. -/
import Derived.Test.YtiahkaonbkmffaaFixRL
set_option linter.unusedVariables false
namespace Go.Proofs.Ytiahkaonbkmffaa
open Go.RowKit Fx

/-- HalfPlane of a slice that has been made of one vertex. -/
theorem half1_blk (vx vy vi ox oy nx ny : Int) (b : Nat) (w : World) (h : blk w b #[.int .i64 vx, .int .i64 vy, .int .i64 vi] 34) : Calls Try.prog 12 #[.slice (some ⟨b, 0, none⟩) 1 1, .agg #[.int .i64 ox, .int .i64 oy], .agg #[.int .i64 nx, .int .i64 ny]] w fun e w' => (∃ A' cap', e = .returned (.slice A' 0 cap')) ∧ ∃ q, w' = gw w q :=
  (vtxr_ex (yhalf_b (some ⟨b, 0, none⟩) 1 [⟨vx, vy, vi⟩] ox oy nx ny w (vts_lit (t := 34) (by show blk _ _ #[.int .i64 vx, .int .i64 vy, .int .i64 vi] _; exact h)))).mono fun e w' ⟨⟨A', cap', h1, _⟩, h2⟩ => ⟨⟨A', cap', h1⟩, h2⟩

/-- HalfPlane of a slice that has been made of three vertices. -/
theorem half3_blk (vx vy vi ux uy ui tx ty ti ox oy nx ny : Int) (b : Nat) (w : World) (h : blk w b #[.int .i64 vx, .int .i64 vy, .int .i64 vi, .int .i64 ux, .int .i64 uy, .int .i64 ui, .int .i64 tx, .int .i64 ty, .int .i64 ti] 34) : Calls Try.prog 12 #[.slice (some ⟨b, 0, none⟩) 3 3, .agg #[.int .i64 ox, .int .i64 oy], .agg #[.int .i64 nx, .int .i64 ny]] w fun e w' => (∃ A' cap', e = .returned (.slice A' 0 cap')) ∧ ∃ q, w' = gw w q :=
  (vtxr_ex (yhalf_b (some ⟨b, 0, none⟩) 3 [⟨vx, vy, vi⟩, ⟨ux, uy, ui⟩, ⟨tx, ty, ti⟩] ox oy nx ny w (vts_lit (t := 34) (by show blk _ _ #[.int .i64 vx, .int .i64 vy, .int .i64 vi, .int .i64 ux, .int .i64 uy, .int .i64 ui, .int .i64 tx, .int .i64 ty, .int .i64 ti] _; exact h)))).mono fun e w' ⟨⟨A', cap', h1, _⟩, h2⟩ => ⟨⟨A', cap', h1⟩, h2⟩

set_option maxRecDepth 100000 in
set_option maxHeartbeats 8000000 in
theorem walk_ClipOutside (vx vy vi ux uy ui ox oy nx ny : Int) (w : World) : Calls Try.prog 7 #[.agg #[.int .i64 vx, .int .i64 vy, .int .i64 vi, .int .i64 ux, .int .i64 uy, .int .i64 ui], .agg #[.int .i64 ox, .int .i64 oy], .agg #[.int .i64 nx, .int .i64 ny]] w fun e w' => e = .returned (.bool true) ∧ Below w.heap.size w w' := by
  have e0 := example15_b
  obtain ⟨L, hL⟩ : ∃ L, hpl [⟨vx, vy, vi⟩, ⟨ux, uy, ui⟩] ox oy nx ny = L := ⟨_, rfl⟩
  have cH := fun b w' h => half_blk vx vy vi ux uy ui ox oy nx ny hL b w' h
  have cH1 := fun b w' h => half1_blk vx vy vi ox oy nx ny b w' h
  have cH3 := fun b w' h => half3_blk vx vy vi ux uy ui vx vy vi ox oy nx ny b w' h
  have c1 := fun w' => rvsub_b vx vy ox oy w'
  have c2 := fun w' => rvsub_b ux uy ox oy w'
  have c3 := fun w' => rdot_b nx ny (sub vx ox) (sub vy oy) w'
  have c4 := fun w' => rdot_b nx ny (sub ux ox) (sub uy oy) w'
  have hL2 : hpE ⟨vx, vy, vi⟩ ⟨ux, uy, ui⟩ (dot nx ny (sub vx ox) (sub vy oy)) (dot nx ny (sub ux ox) (sub uy oy)) = L := hL
  clear hL
  generalize dot nx ny (sub vx ox) (sub vy oy) = d at *
  generalize dot nx ny (sub ux ox) (sub uy oy) = e at *
  generalize sub vx ox = s1 at *
  generalize sub vy oy = s2 at *
  generalize sub ux ox = s3 at *
  generalize sub uy oy = s4 at *
  have hcs : (L.length = 0 ∧ 0 < d ∧ 0 < e) ∨ (L.length = 2 ∧ 0 < d ∧ ¬ 0 < e) ∨ (L.length = 2 ∧ ¬ 0 < d) := by
    subst hL2
    unfold hpE
    split
    · rename_i h; exact .inl ⟨rfl, h⟩
    · rename_i h; by_cases h1 : 0 < d
      · exact .inr (.inl ⟨rfl, h1, fun h2 => h ⟨h1, h2⟩⟩)
      · exact .inr (.inr ⟨rfl, h1⟩)
  clear hL2
  have cA : ∀ n, L.length = n → ∀ b w', blk w' b #[.int .i64 vx, .int .i64 vy, .int .i64 vi, .int .i64 ux, .int .i64 uy, .int .i64 ui] 34 → Calls Try.prog 12 #[.slice (some ⟨b, 0, none⟩) 2 2, .agg #[.int .i64 ox, .int .i64 oy], .agg #[.int .i64 nx, .int .i64 ny]] w' fun e w'' => (∃ A' cap', e = .returned (.slice A' n cap')) ∧ ∃ q, w'' = gw w' q := fun n hn b w' h => (cH b w' h).mono fun e w'' ⟨⟨A', cap', h1, _⟩, h2⟩ => ⟨⟨A', cap', hn ▸ h1⟩, h2⟩
  clear cH
  rcases hcs with ⟨hn, n1, n2⟩ | ⟨hn, n1, n2⟩ | ⟨hn, n1⟩
  all_goals
    have cH := cA _ hn
    try have hde : decide (0 < e) = false := decide_eq_false (by assumption)
    clear cA hn
    go_enter Try.func7, Try.ntmps7
    go_upto_region 2 with (go_at_call 12; refine Calls.mono (cH _ _ (by repeat (first | with_reducible exact blk_new _ _ _ | ((with_reducible refine blk_at ?_); (simp; done)) | with_reducible apply blk_alloc | with_reducible apply blk_gw | with_reducible apply blk_drew))) ?_; rintro e w1 ⟨⟨A1, k1, rfl⟩, q1, rfl⟩)
    refine wp_named ?_
    intro W hW
    have kL : blk W w.heap.size #[.int .i64 vx, .int .i64 vy, .int .i64 vi, .int .i64 ux, .int .i64 uy, .int .i64 ui] 40 := by rw [hW]; exact (by repeat (first | with_reducible exact blk_new _ _ _ | ((with_reducible refine blk_at ?_); (simp; done)) | with_reducible apply blk_alloc | with_reducible apply blk_gw | with_reducible apply blk_drew))
    have kO : blk W (w.heap.size + 1) #[.int .i64 ox, .int .i64 oy] 32 := by rw [hW]; exact (by repeat (first | with_reducible exact blk_new _ _ _ | ((with_reducible refine blk_at ?_); (simp; done)) | with_reducible apply blk_alloc | with_reducible apply blk_gw | with_reducible apply blk_drew))
    have kN : blk W (w.heap.size + 1 + 1) #[.int .i64 nx, .int .i64 ny] 32 := by rw [hW]; exact (by repeat (first | with_reducible exact blk_new _ _ _ | ((with_reducible refine blk_at ?_); (simp; done)) | with_reducible apply blk_alloc | with_reducible apply blk_gw | with_reducible apply blk_drew))
    have hbW : Below w.heap.size w W := by rw [hW]; exact (by repeat (first | with_reducible exact Below.refl _ _ | with_reducible assumption | refine bgw ?_ (by first | (simp; done) | (simp; omega) | omega) _ | refine Below.setCell ?_ (by first | exact Nat.le_of_not_lt (by assumption) | (simp; done) | (simp; omega) | omega) _ | refine Below.alloc ?_ (by first | (simp; done) | (simp; omega) | omega) _ | refine Below.drew ?_))
    clear hW cH
    have hszW := hbW.size
    have okL := blk_older kL
    have ckL_0 : _ = some _ := blk_cell kL 0
    have ckL_1 : _ = some _ := blk_cell kL 1
    have ckL_2 : _ = some _ := blk_cell kL 2
    have ckL_3 : _ = some _ := blk_cell kL 3
    have ckL_4 : _ = some _ := blk_cell kL 4
    have ckL_5 : _ = some _ := blk_cell kL 5
    have fkL_0 := blk_free kL 0
    have fkL_1 := blk_free kL 1
    have fkL_2 := blk_free kL 2
    have fkL_3 := blk_free kL 3
    have fkL_4 := blk_free kL 4
    have fkL_5 := blk_free kL 5
    have okO := blk_older kO
    have ckO_0 : _ = some _ := blk_cell kO 0
    have ckO_1 : _ = some _ := blk_cell kO 1
    have fkO_0 := blk_free kO 0
    have fkO_1 := blk_free kO 1
    have okN := blk_older kN
    have ckN_0 : _ = some _ := blk_cell kN 0
    have ckN_1 : _ = some _ := blk_cell kN 1
    have fkN_0 := blk_free kN 0
    have fkN_1 := blk_free kN 1
    refine wp_region_gw (by kernel_rfl) (by kernel_rfl) ?_
    repeat (go_big_quiet_step ((first | (go_at_call 15; with_reducible_and_instances exact gw_call (c1 _)) | (go_at_call 14; with_reducible_and_instances exact gw_call (c3 _)))))
    refine wpQuiet_nil ?_
    intro w1 hw1
    obtain ⟨q, rfl⟩ := hw1
    go_wp2_with fail
    refine wp_region_gw (by kernel_rfl) (by kernel_rfl) ?_
    repeat (go_big_quiet_step ((first | (go_at_call 15; with_reducible_and_instances exact gw_call (c2 _)) | (go_at_call 14; with_reducible_and_instances exact gw_call (c4 _)))))
    refine wpQuiet_nil ?_
    intro w1 hw1
    obtain ⟨q, rfl⟩ := hw1
    clear c1 c2 c3 c4
    go_wp2_with (first | (go_at_call 12; (with_reducible show Calls _ _ #[.slice _ 1 1, _, _] _ _); refine Calls.mono (cH1 _ _ (by repeat (first | with_reducible exact blk_new _ _ _ | ((with_reducible refine blk_at ?_); (simp; done)) | with_reducible apply blk_alloc | with_reducible apply blk_gw | with_reducible apply blk_drew))) ?_; rintro e w1 ⟨⟨A2, k2, rfl⟩, q2, rfl⟩) | (go_at_call 12; (with_reducible show Calls _ _ #[.slice _ 3 3, _, _] _ _); refine Calls.mono (cH3 _ _ (by repeat (first | with_reducible exact blk_new _ _ _ | ((with_reducible refine blk_at ?_); (simp; done)) | with_reducible apply blk_alloc | with_reducible apply blk_gw | with_reducible apply blk_drew))) ?_; rintro e w1 ⟨⟨A3, k3, rfl⟩, q3, rfl⟩) | (go_at_call 8; refine Calls.mono (gw_at (e0 _)) ?_; rintro e w1 ⟨rfl, q4, rfl⟩))
    go_ret
    exact ⟨rfl, (by repeat (first | with_reducible exact Below.refl _ _ | with_reducible assumption | refine bgw ?_ (by first | (simp; done) | (simp; omega) | omega) _ | refine Below.setCell ?_ (by first | exact Nat.le_of_not_lt (by assumption) | (simp; done) | (simp; omega) | omega) _ | refine Below.alloc ?_ (by first | (simp; done) | (simp; omega) | omega) _ | refine Below.drew ?_))⟩

set_option maxRecDepth 100000 in
set_option maxHeartbeats 16000000 in
theorem walk_ClipSymmetric (vx vy vi ux uy ui ox oy nx ny : Int) (w : World) : Calls Try.prog 6 #[.agg #[.int .i64 vx, .int .i64 vy, .int .i64 vi, .int .i64 ux, .int .i64 uy, .int .i64 ui], .agg #[.int .i64 ox, .int .i64 oy], .agg #[.int .i64 nx, .int .i64 ny]] w fun e w' => e = .returned (.bool true) ∧ Below w.heap.size w w' := by
  have e0 := example15_b
  obtain ⟨L, hL⟩ : ∃ L, hpl [⟨vx, vy, vi⟩, ⟨ux, uy, ui⟩] ox oy nx ny = L := ⟨_, rfl⟩
  obtain ⟨M, hM⟩ : ∃ M, hpl [⟨ux, uy, ui⟩, ⟨vx, vy, vi⟩] ox oy nx ny = M := ⟨_, rfl⟩
  have cH := fun b w' h => half_blk vx vy vi ux uy ui ox oy nx ny hL b w' h
  have cK := fun b w' h => half_blk ux uy ui vx vy vi ox oy nx ny hM b w' h
  have c1 := fun w' => rvsub_b vx vy ox oy w'
  have c2 := fun w' => rvsub_b ux uy ox oy w'
  have c3 := fun w' => rdot_b nx ny (sub vx ox) (sub vy oy) w'
  have c4 := fun w' => rdot_b nx ny (sub ux ox) (sub uy oy) w'
  have hL2 : hpE ⟨vx, vy, vi⟩ ⟨ux, uy, ui⟩ (dot nx ny (sub vx ox) (sub vy oy)) (dot nx ny (sub ux ox) (sub uy oy)) = L := hL
  have hM2 : hpE ⟨ux, uy, ui⟩ ⟨vx, vy, vi⟩ (dot nx ny (sub ux ox) (sub uy oy)) (dot nx ny (sub vx ox) (sub vy oy)) = M := hM
  clear hL hM
  generalize dot nx ny (sub vx ox) (sub vy oy) = d at *
  generalize dot nx ny (sub ux ox) (sub uy oy) = e at *
  generalize sub vx ox = s1 at *
  generalize sub vy oy = s2 at *
  generalize sub ux ox = s3 at *
  generalize sub uy oy = s4 at *
  by_cases n0 : 0 < d ∧ 0 < e
  · obtain rfl : L = [] := by rw [← hL2]; exact if_pos n0
    obtain rfl : M = [] := by rw [← hM2]; exact if_pos n0.symm
    clear hL2 hM2 n0 c1 c2 c3 c4
    go_enter Try.func6, Try.ntmps6
    go_upto_region 2 with (go_at_call 12; refine Calls.mono (cH _ _ (by repeat (first | with_reducible exact blk_new _ _ _ | ((with_reducible refine blk_at ?_); (simp; done)) | with_reducible apply blk_alloc | with_reducible apply blk_gw | with_reducible apply blk_drew))) ?_; rintro e w1 ⟨⟨A1, k1, rfl, hle1, hmx1, hV1, hnil1⟩, q1, rfl⟩)
    go_wp2_with (first | (go_at_call 12; refine Calls.mono (cK _ _ (by repeat (first | with_reducible exact blk_new _ _ _ | ((with_reducible refine blk_at ?_); (simp; done)) | with_reducible apply blk_alloc | with_reducible apply blk_gw | with_reducible apply blk_drew))) ?_; rintro e w1 ⟨⟨A2, k2, rfl, hle2, hmx2, hV2, hnil2⟩, q2, rfl⟩) | (go_at_call 8; refine Calls.mono (gw_at (e0 _)) ?_; rintro e w1 ⟨rfl, q4, rfl⟩))
    go_ret
    exact ⟨rfl, (by repeat (first | with_reducible exact Below.refl _ _ | with_reducible assumption | refine bgw ?_ (by first | (simp; done) | (simp; omega) | omega) _ | refine Below.setCell ?_ (by first | exact Nat.le_of_not_lt (by assumption) | (simp; done) | (simp; omega) | omega) _ | refine Below.alloc ?_ (by first | (simp; done) | (simp; omega) | omega) _ | refine Below.drew ?_))⟩
  · obtain ⟨px, py, hP, hPd⟩ : ∃ px py, hpA ⟨vx, vy, vi⟩ ⟨ux, uy, ui⟩ d e = ⟨px, py, vi⟩ ∧ (¬ 0 < d → px = vx ∧ py = vy) := by
      unfold hpA; by_cases h : 0 < d
      · rw [if_pos h]; exact ⟨_, _, rfl, fun g => absurd h g⟩
      · rw [if_neg h]; exact ⟨_, _, rfl, fun _ => ⟨rfl, rfl⟩⟩
    obtain ⟨rx, ry, hR, hRd⟩ : ∃ rx ry, hpA ⟨ux, uy, ui⟩ ⟨vx, vy, vi⟩ e d = ⟨rx, ry, ui⟩ ∧ (¬ 0 < e → rx = ux ∧ ry = uy) := by
      unfold hpA; by_cases h : 0 < e
      · rw [if_pos h]; exact ⟨_, _, rfl, fun g => absurd h g⟩
      · rw [if_neg h]; exact ⟨_, _, rfl, fun _ => ⟨rfl, rfl⟩⟩
    obtain rfl : L = [⟨px, py, vi⟩, ⟨rx, ry, ui⟩] := by rw [← hL2, ← hP, ← hR]; exact if_neg n0
    obtain rfl : M = [⟨rx, ry, ui⟩, ⟨px, py, vi⟩] := by rw [← hM2, ← hP, ← hR]; exact if_neg (fun h => n0 h.symm)
    clear hL2 hM2 n0 hP hR
    go_enter Try.func6, Try.ntmps6
    go_upto_region 2 with (go_at_call 12; refine Calls.mono (cH _ _ (by repeat (first | with_reducible exact blk_new _ _ _ | ((with_reducible refine blk_at ?_); (simp; done)) | with_reducible apply blk_alloc | with_reducible apply blk_gw | with_reducible apply blk_drew))) ?_; rintro e w1 ⟨⟨A1, k1, rfl, hle1, hmx1, hV1, hnil1⟩, q1, rfl⟩)
    go_upto_region 5 with (go_at_call 12; refine Calls.mono (cK _ _ (by repeat (first | with_reducible exact blk_new _ _ _ | ((with_reducible refine blk_at ?_); (simp; done)) | with_reducible apply blk_alloc | with_reducible apply blk_gw | with_reducible apply blk_drew))) ?_; rintro e w1 ⟨⟨A2, k2, rfl, hle2, hmx2, hV2, hnil2⟩, q2, rfl⟩)
    clear cH cK
    refine wp_named ?_
    intro W hW
    have kL : blk W w.heap.size #[.int .i64 vx, .int .i64 vy, .int .i64 vi, .int .i64 ux, .int .i64 uy, .int .i64 ui] 40 := by rw [hW]; exact (by repeat (first | with_reducible exact blk_new _ _ _ | ((with_reducible refine blk_at ?_); (simp; done)) | with_reducible apply blk_alloc | with_reducible apply blk_gw | with_reducible apply blk_drew))
    have kO : blk W (w.heap.size + 1) #[.int .i64 ox, .int .i64 oy] 32 := by rw [hW]; exact (by repeat (first | with_reducible exact blk_new _ _ _ | ((with_reducible refine blk_at ?_); (simp; done)) | with_reducible apply blk_alloc | with_reducible apply blk_gw | with_reducible apply blk_drew))
    have kN : blk W (w.heap.size + 1 + 1) #[.int .i64 nx, .int .i64 ny] 32 := by rw [hW]; exact (by repeat (first | with_reducible exact blk_new _ _ _ | ((with_reducible refine blk_at ?_); (simp; done)) | with_reducible apply blk_alloc | with_reducible apply blk_gw | with_reducible apply blk_drew))
    have hbW : Below w.heap.size w W := by rw [hW]; exact (by repeat (first | with_reducible exact Below.refl _ _ | with_reducible assumption | refine bgw ?_ (by first | (simp; done) | (simp; omega) | omega) _ | refine Below.setCell ?_ (by first | exact Nat.le_of_not_lt (by assumption) | (simp; done) | (simp; omega) | omega) _ | refine Below.alloc ?_ (by first | (simp; done) | (simp; omega) | omega) _ | refine Below.drew ?_))
    have hVW : Vts W A1 [⟨px, py, vi⟩, ⟨rx, ry, ui⟩] := by rw [hW]; exact Vts.to hV1 (by repeat (first | with_reducible exact Below.refl _ _ | with_reducible assumption | refine bgw ?_ (by first | (simp; done) | (simp; omega) | omega) _ | refine Below.setCell ?_ (by first | exact Nat.le_of_not_lt (by assumption) | (simp; done) | (simp; omega) | omega) _ | refine Below.alloc ?_ (by first | (simp; done) | (simp; omega) | omega) _ | refine Below.drew ?_))
    have hUW : Vts W A2 [⟨rx, ry, ui⟩, ⟨px, py, vi⟩] := by rw [hW]; exact Vts.to hV2 (by repeat (first | with_reducible exact Below.refl _ _ | with_reducible assumption | refine bgw ?_ (by first | (simp; done) | (simp; omega) | omega) _ | refine Below.setCell ?_ (by first | exact Nat.le_of_not_lt (by assumption) | (simp; done) | (simp; omega) | omega) _ | refine Below.alloc ?_ (by first | (simp; done) | (simp; omega) | omega) _ | refine Below.drew ?_))
    clear hW hV1 hV2
    have hszW := hbW.size
    obtain ⟨b5, o5, rfl, hc5⟩ := vts_cells hVW
    obtain ⟨d0, d1, d2, d3, d4, d5⟩ := hc5 _ (Below.refl _ _)
    have od := older_of_cell d0
    obtain ⟨b6, o6, rfl, hc6⟩ := vts_cells hUW
    obtain ⟨f0, f1, f2, f3, f4, f5⟩ := hc6 _ (Below.refl _ _)
    have of := older_of_cell f0
    clear hVW hUW hc5 hc6
    have okL := blk_older kL
    have ckL_0 : _ = some _ := blk_cell kL 0
    have ckL_1 : _ = some _ := blk_cell kL 1
    have ckL_2 : _ = some _ := blk_cell kL 2
    have ckL_3 : _ = some _ := blk_cell kL 3
    have ckL_4 : _ = some _ := blk_cell kL 4
    have ckL_5 : _ = some _ := blk_cell kL 5
    have fkL_0 := blk_free kL 0
    have fkL_1 := blk_free kL 1
    have fkL_2 := blk_free kL 2
    have fkL_3 := blk_free kL 3
    have fkL_4 := blk_free kL 4
    have fkL_5 := blk_free kL 5
    have okO := blk_older kO
    have ckO_0 : _ = some _ := blk_cell kO 0
    have ckO_1 : _ = some _ := blk_cell kO 1
    have fkO_0 := blk_free kO 0
    have fkO_1 := blk_free kO 1
    have okN := blk_older kN
    have ckN_0 : _ = some _ := blk_cell kN 0
    have ckN_1 : _ = some _ := blk_cell kN 1
    have fkN_0 := blk_free kN 0
    have fkN_1 := blk_free kN 1
    refine wp_region_gw (by kernel_rfl) (by kernel_rfl) ?_
    repeat (go_big_quiet_step ((first | (go_at_call 15; exact gw_call (rvsub_b _ _ _ _ _)) | (go_at_call 14; exact gw_call (rdot_b _ _ _ _ _)))))
    refine wpQuiet_nil ?_
    intro w1 hw1
    obtain ⟨q, rfl⟩ := hw1
    go_wp2_with fail
    clear f0 f1 f2 f3 f4 f5 of
    refine wp_named ?_
    intro X hX
    have hbX : ∃ p, X = gw W p := ⟨_, hX⟩
    clear hX
    obtain ⟨p0, rfl⟩ := hbX
    go_loopw [9] (fun i wr => (i = .int .i64 0 ∨ i = .int .i64 1 ∨ i = .int .i64 2) ∧ ∃ p, wr = gw W p)
      (fun i _ => (2 - intOf i).toNat)
    case atStart => exact ⟨.inl rfl, ⟨_, rfl⟩⟩
    case round =>
      obtain ⟨rfl | rfl | rfl, p, rfl⟩ := hrel
      · by_cases h : d ≤ 0
        · obtain ⟨rfl, rfl⟩ := hPd (by omega)
          have hd : decide (d ≤ 0) = true := decide_eq_true h
          clear hPd hRd c2 c4
          go_wp2_with fail
          refine wp_region_gw (by kernel_rfl) (by kernel_rfl) ?_
          repeat (go_big_quiet_step ((first | (go_at_call 15; with_reducible_and_instances exact gw_call (c1 _)) | (go_at_call 14; with_reducible_and_instances exact gw_call (c3 _)))))
          refine wpQuiet_nil ?_
          intro w1 hw1
          obtain ⟨q, rfl⟩ := hw1
          go_wp2_with fail
          exact ⟨⟨.inr (.inl rfl), gw_of_below (by repeat (first | with_reducible exact Below.refl _ _ | with_reducible assumption | refine bgw ?_ (by first | (simp; done) | (simp; omega) | omega) _ | refine Below.setCell ?_ (by first | exact Nat.le_of_not_lt (by assumption) | (simp; done) | (simp; omega) | omega) _ | refine Below.alloc ?_ (by first | (simp; done) | (simp; omega) | omega) _ | refine Below.drew ?_))⟩, by simp [intOf]⟩
        · have hd : decide (d ≤ 0) = false := decide_eq_false h
          clear hPd hRd c2 c4
          go_wp2_with fail
          refine wp_region_gw (by kernel_rfl) (by kernel_rfl) ?_
          repeat (go_big_quiet_step ((first | (go_at_call 15; with_reducible_and_instances exact gw_call (c1 _)) | (go_at_call 14; with_reducible_and_instances exact gw_call (c3 _)))))
          refine wpQuiet_nil ?_
          intro w1 hw1
          obtain ⟨q, rfl⟩ := hw1
          go_wp2_with fail
          exact ⟨⟨.inr (.inl rfl), gw_of_below (by repeat (first | with_reducible exact Below.refl _ _ | with_reducible assumption | refine bgw ?_ (by first | (simp; done) | (simp; omega) | omega) _ | refine Below.setCell ?_ (by first | exact Nat.le_of_not_lt (by assumption) | (simp; done) | (simp; omega) | omega) _ | refine Below.alloc ?_ (by first | (simp; done) | (simp; omega) | omega) _ | refine Below.drew ?_))⟩, by simp [intOf]⟩
      · by_cases h : e ≤ 0
        · obtain ⟨rfl, rfl⟩ := hRd (by omega)
          have hd : decide (e ≤ 0) = true := decide_eq_true h
          clear hPd hRd c1 c3
          go_wp2_with fail
          refine wp_region_gw (by kernel_rfl) (by kernel_rfl) ?_
          repeat (go_big_quiet_step ((first | (go_at_call 15; with_reducible_and_instances exact gw_call (c2 _)) | (go_at_call 14; with_reducible_and_instances exact gw_call (c4 _)))))
          refine wpQuiet_nil ?_
          intro w1 hw1
          obtain ⟨q, rfl⟩ := hw1
          go_wp2_with fail
          exact ⟨⟨.inr (.inr rfl), gw_of_below (by repeat (first | with_reducible exact Below.refl _ _ | with_reducible assumption | refine bgw ?_ (by first | (simp; done) | (simp; omega) | omega) _ | refine Below.setCell ?_ (by first | exact Nat.le_of_not_lt (by assumption) | (simp; done) | (simp; omega) | omega) _ | refine Below.alloc ?_ (by first | (simp; done) | (simp; omega) | omega) _ | refine Below.drew ?_))⟩, by simp [intOf]⟩
        · have hd : decide (e ≤ 0) = false := decide_eq_false h
          clear hPd hRd c1 c3
          go_wp2_with fail
          refine wp_region_gw (by kernel_rfl) (by kernel_rfl) ?_
          repeat (go_big_quiet_step ((first | (go_at_call 15; with_reducible_and_instances exact gw_call (c2 _)) | (go_at_call 14; with_reducible_and_instances exact gw_call (c4 _)))))
          refine wpQuiet_nil ?_
          intro w1 hw1
          obtain ⟨q, rfl⟩ := hw1
          go_wp2_with fail
          exact ⟨⟨.inr (.inr rfl), gw_of_below (by repeat (first | with_reducible exact Below.refl _ _ | with_reducible assumption | refine bgw ?_ (by first | (simp; done) | (simp; omega) | omega) _ | refine Below.setCell ?_ (by first | exact Nat.le_of_not_lt (by assumption) | (simp; done) | (simp; omega) | omega) _ | refine Below.alloc ?_ (by first | (simp; done) | (simp; omega) | omega) _ | refine Below.drew ?_))⟩, by simp [intOf]⟩
      · clear hPd hRd c1 c2 c3 c4
        go_wp2_with (go_at_call 8; refine Calls.mono (gw_at (e0 _)) ?_; rintro e w1 ⟨rfl, q4, rfl⟩)
        go_ret
        exact ⟨rfl, Below.trans hbW (Below.mono (by repeat (first | with_reducible exact Below.refl _ _ | with_reducible assumption | refine bgw ?_ (by first | (simp; done) | (simp; omega) | omega) _ | refine Below.setCell ?_ (by first | exact Nat.le_of_not_lt (by assumption) | (simp; done) | (simp; omega) | omega) _ | refine Below.alloc ?_ (by first | (simp; done) | (simp; omega) | omega) _ | refine Below.drew ?_)) hszW)⟩

end Go.Proofs.Ytiahkaonbkmffaa
