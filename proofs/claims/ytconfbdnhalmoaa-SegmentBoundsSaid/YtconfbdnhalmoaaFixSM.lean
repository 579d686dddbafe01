/- The walk of SegmentBounds: it returns true for every input, and nothing that existed has changed. No conditions. -/
import Derived.Test.YtconfbdnhalmoaaFixSL
set_option linter.unusedVariables false
namespace Go.Proofs.Ytconfbdnhalmoaa
open Go.RowKit Fx

set_option maxHeartbeats 8000000 in
theorem walk_SegmentBounds (ax ay bx b_y cx cy dx dy : Int) (w : World) : Calls Try.prog 8 #[.agg #[.int .i64 ax, .int .i64 ay], .agg #[.int .i64 bx, .int .i64 b_y], .agg #[.int .i64 cx, .int .i64 cy], .agg #[.int .i64 dx, .int .i64 dy]] w fun e w' => e = .returned (.bool true) ∧ Below w.heap.size w w' := by
  have cC := fun w' => xcps_b ax ay bx b_y cx cy dx dy w'
  have cO := fun w' => xcp_b ax ay bx b_y cx cy w'
  have cZ := fun w' => xcp_b ax ay ax ay cx cy w'
  have cI := fun w' => xisct_b ax ay bx b_y cx cy dx dy w'
  rw [cpt_point, cpc_zero, cpc_zero] at cZ
  have h1 := two_has (cps_p ax ay bx b_y cx cy dx dy)
  have h2 := two_has (inB_cpc (ax := ax) (ay := ay) (bx := bx) (b_y := b_y) (cpt_in ax ay bx b_y cx cy).1 (cpt_in ax ay bx b_y cx cy).2)
  have h3 := fun h => two_has (cps_q (ax := ax) (ay := ay) (bx := bx) (b_y := b_y) (cx := cx) (cy := cy) (dx := dx) (dy := dy) h)
  generalize cps ax ay bx b_y cx cy dx dy = C at *
  obtain ⟨p1, p2, q1, q2⟩ := C
  dsimp only at cC h1 h3
  generalize cpc (cpt ax ay bx b_y cx cy) ax bx = o1 at *
  generalize cpc (cpt ax ay bx b_y cx cy) ay b_y = o2 at *
  generalize cpt ax ay bx b_y cx cy = t at *
  have k1 := fun w' => xhas_b (min (sat ax) (sat bx)) (min (sat ay) (sat b_y)) (max (sat ax) (sat bx)) (max (sat ay) (sat b_y)) p1 p2 w'
  have k2 := fun w' => xhas_b (min (sat ax) (sat bx)) (min (sat ay) (sat b_y)) (max (sat ax) (sat bx)) (max (sat ay) (sat b_y)) o1 o2 w'
  have k3 := fun w' => xhas_b (min (sat cx) (sat dx)) (min (sat cy) (sat dy)) (max (sat cx) (sat dx)) (max (sat cy) (sat dy)) q1 q2 w'
  rw [h1] at k1
  rw [h2] at k2
  clear h1 h2
  cases hI : isct ax ay bx b_y cx cy dx dy
  focus
    rw [hI] at cI
    rw [h3 hI] at k3
    clear h3 hI
    go_enter Try.func8, Try.ntmps8
    go_wp2_with (first
      | (go_at_call 21; refine Calls.mono (gw_at (xfp2_b _ _ _ _ _ _ _ _ (by first | ((with_reducible refine blk_at ?_); simp; done) | ((with_reducible refine blk_gw (blk_at ?_)); simp; done) | ((with_reducible refine blk_alloc (blk_at ?_)); simp; done) | ((with_reducible refine blk_gw (blk_alloc (blk_at ?_))); simp; done) | with_reducible assumption) (by decide))) ?_; rintro e w1 ⟨rfl, q, rfl⟩)
      | (go_at_call 9; (with_reducible_and_instances refine Calls.mono (gw_at (cC _)) ?_); rintro e w1 ⟨rfl, q, rfl⟩)
      | (go_at_call 14; (with_reducible_and_instances refine Calls.mono (gw_at (cO _)) ?_); rintro e w1 ⟨rfl, q, rfl⟩)
      | (go_at_call 14; (with_reducible_and_instances refine Calls.mono (gw_at (cZ _)) ?_); rintro e w1 ⟨rfl, q, rfl⟩))
    apply wp_box1 8 95 7 19 #[.int .i64 0, .int .i64 0] 23 (by kernel_rfl) (by rfl) (by kernel_rfl) (by intro o ho a w; simp at ho; subst ho; simp [go_sem, ptr])
    · intro p0
      simp only [heads, ghost, List.take_succ_cons, List.take_zero, List.map_cons, List.map_nil]
      repeat (go_big_quiet_step ((first | (go_at_call 21; (with_reducible show Calls _ _ (#[Value.slice _ 2 _]) _ _); exact gw_call (xfp2_b _ _ _ _ _ _ _ _ (by first | ((with_reducible refine blk_at ?_); simp; done) | ((with_reducible refine blk_gw (blk_at ?_)); simp; done) | ((with_reducible refine blk_alloc (blk_at ?_)); simp; done) | ((with_reducible refine blk_gw (blk_alloc (blk_at ?_))); simp; done) | with_reducible assumption) (by decide))) | (go_at_call 21; (with_reducible show Calls _ _ (#[Value.slice _ (List.length _) _]) _ _); exact gw_call (xfp_b _ _ _ _ (Pts.to (by with_reducible assumption) (by repeat (first | with_reducible exact Below.refl _ _ | with_reducible assumption | refine bgw ?_ (by first | (simp; done) | (simp; omega) | omega) _ | refine Below.setCell ?_ (by first | exact Nat.le_of_not_lt (by assumption) | (simp; done) | (simp; omega) | omega) _ | refine Below.alloc ?_ (by first | (simp; done) | (simp; omega) | omega) _ | refine Below.drew ?_))) (by with_reducible assumption) (by with_reducible assumption))) | (go_at_call 9; exact gw_call (xcps_b _ _ _ _ _ _ _ _ _)) | (go_at_call 14; exact gw_call (xcp_b _ _ _ _ _ _ _)) | (go_at_call 22; exact gw_call (sat_b _ _)) | (go_at_call 16; (first | (exact gw_call (boolIs (xisct_b _ _ _ _ _ _ _ _ _) (b := true) (by assumption))) | (exact gw_call (boolIs (xisct_b _ _ _ _ _ _ _ _ _) (b := false) (by assumption))) | (exact gw_call (xisct_b _ _ _ _ _ _ _ _ _)))) | (go_at_call 23; (first | (exact gw_call (boolIs (xhas_b _ _ _ _ _ _ _) (b := true) (by assumption))) | (exact gw_call (boolIs (xhas_b _ _ _ _ _ _ _) (b := false) (by assumption))) | (exact gw_call (xhas_b _ _ _ _ _ _ _)))) | (go_at_call 13; exact gw_call (example10_b _)))))
      exact wpQuiet_nil rfl
    · intro R bB p0 nB gB  kB hK
      simp only [List.drop_succ_cons, List.drop_zero, Act.put, ptr, List.setIfInBounds_toArray, List.set_cons_succ, List.set_cons_zero]
      have cB_0 : _ = some _ := blk_cell kB 0
      have cB_1 : _ = some _ := blk_cell kB 1
      have fB_0 := blk_free kB 0
      have fB_1 := blk_free kB 1
      have oB := blk_older kB
      go_wp2_with fail
      refine box_end1 gB hK ?_ ?_
      · exact (by repeat (first | with_reducible exact Below.refl _ _ | with_reducible assumption | refine bgw ?_ (by first | (simp; done) | (simp; omega) | omega) _ | refine Below.setCell ?_ (by first | exact Nat.le_of_not_lt (by assumption) | (simp; done) | (simp; omega) | omega) _ | refine Below.alloc ?_ (by first | (simp; done) | (simp; omega) | omega) _ | refine Below.drew ?_))
      · exact (by repeat' (first | with_reducible assumption | with_reducible apply blk_gw | with_reducible apply blk_alloc | with_reducible apply blk_set | ((with_reducible apply blk_other); focus (first | omega | assumption))))
    intro bB p0 nB  kB
    have cB_0 : _ = some _ := blk_cell kB 0
    have cB_1 : _ = some _ := blk_cell kB 1
    have fB_0 := blk_free kB 0
    have fB_1 := blk_free kB 1
    have oB := blk_older kB
    go_wp2_with (first
      | (go_at_call 23; (with_reducible_and_instances refine Calls.mono (gw_at (k1 _)) ?_); rintro e w1 ⟨rfl, q, rfl⟩)
      | (go_at_call 23; (with_reducible_and_instances refine Calls.mono (gw_at (k2 _)) ?_); rintro e w1 ⟨rfl, q, rfl⟩)
      | (go_at_call 23; (with_reducible_and_instances refine Calls.mono (gw_at (k3 _)) ?_); rintro e w1 ⟨rfl, q, rfl⟩)
      | (go_at_call 16; (with_reducible_and_instances refine Calls.mono (gw_at (cI _)) ?_); rintro e w1 ⟨rfl, q, rfl⟩)
      | (go_at_call 13; (with_reducible_and_instances refine Calls.mono (gw_at (example10_b _)) ?_); rintro e w1 ⟨rfl, q, rfl⟩))
    go_ret
    exact ⟨rfl, (by repeat (first | with_reducible exact Below.refl _ _ | with_reducible assumption | refine bgw ?_ (by first | (simp; done) | (simp; omega) | omega) _ | refine Below.setCell ?_ (by first | exact Nat.le_of_not_lt (by assumption) | (simp; done) | (simp; omega) | omega) _ | refine Below.alloc ?_ (by first | (simp; done) | (simp; omega) | omega) _ | refine Below.drew ?_))⟩
  rw [hI] at cI
  clear h3 k3 hI
  go_enter Try.func8, Try.ntmps8
  go_wp2_with (first
  | (go_at_call 21; refine Calls.mono (gw_at (xfp2_b _ _ _ _ _ _ _ _ (by first | ((with_reducible refine blk_at ?_); simp; done) | ((with_reducible refine blk_gw (blk_at ?_)); simp; done) | ((with_reducible refine blk_alloc (blk_at ?_)); simp; done) | ((with_reducible refine blk_gw (blk_alloc (blk_at ?_))); simp; done) | with_reducible assumption) (by decide))) ?_; rintro e w1 ⟨rfl, q, rfl⟩)
  | (go_at_call 9; (with_reducible_and_instances refine Calls.mono (gw_at (cC _)) ?_); rintro e w1 ⟨rfl, q, rfl⟩)
  | (go_at_call 14; (with_reducible_and_instances refine Calls.mono (gw_at (cO _)) ?_); rintro e w1 ⟨rfl, q, rfl⟩)
  | (go_at_call 14; (with_reducible_and_instances refine Calls.mono (gw_at (cZ _)) ?_); rintro e w1 ⟨rfl, q, rfl⟩))
  apply wp_box1 8 95 7 19 #[.int .i64 0, .int .i64 0] 23 (by kernel_rfl) (by rfl) (by kernel_rfl) (by intro o ho a w; simp at ho; subst ho; simp [go_sem, ptr])
  · intro p0
    simp only [heads, ghost, List.take_succ_cons, List.take_zero, List.map_cons, List.map_nil]
    repeat (go_big_quiet_step ((first | (go_at_call 21; (with_reducible show Calls _ _ (#[Value.slice _ 2 _]) _ _); exact gw_call (xfp2_b _ _ _ _ _ _ _ _ (by first | ((with_reducible refine blk_at ?_); simp; done) | ((with_reducible refine blk_gw (blk_at ?_)); simp; done) | ((with_reducible refine blk_alloc (blk_at ?_)); simp; done) | ((with_reducible refine blk_gw (blk_alloc (blk_at ?_))); simp; done) | with_reducible assumption) (by decide))) | (go_at_call 21; (with_reducible show Calls _ _ (#[Value.slice _ (List.length _) _]) _ _); exact gw_call (xfp_b _ _ _ _ (Pts.to (by with_reducible assumption) (by repeat (first | with_reducible exact Below.refl _ _ | with_reducible assumption | refine bgw ?_ (by first | (simp; done) | (simp; omega) | omega) _ | refine Below.setCell ?_ (by first | exact Nat.le_of_not_lt (by assumption) | (simp; done) | (simp; omega) | omega) _ | refine Below.alloc ?_ (by first | (simp; done) | (simp; omega) | omega) _ | refine Below.drew ?_))) (by with_reducible assumption) (by with_reducible assumption))) | (go_at_call 9; exact gw_call (xcps_b _ _ _ _ _ _ _ _ _)) | (go_at_call 14; exact gw_call (xcp_b _ _ _ _ _ _ _)) | (go_at_call 22; exact gw_call (sat_b _ _)) | (go_at_call 16; (first | (exact gw_call (boolIs (xisct_b _ _ _ _ _ _ _ _ _) (b := true) (by assumption))) | (exact gw_call (boolIs (xisct_b _ _ _ _ _ _ _ _ _) (b := false) (by assumption))) | (exact gw_call (xisct_b _ _ _ _ _ _ _ _ _)))) | (go_at_call 23; (first | (exact gw_call (boolIs (xhas_b _ _ _ _ _ _ _) (b := true) (by assumption))) | (exact gw_call (boolIs (xhas_b _ _ _ _ _ _ _) (b := false) (by assumption))) | (exact gw_call (xhas_b _ _ _ _ _ _ _)))) | (go_at_call 13; exact gw_call (example10_b _)))))
    exact wpQuiet_nil rfl
  · intro R bB p0 nB gB  kB hK
    simp only [List.drop_succ_cons, List.drop_zero, Act.put, ptr, List.setIfInBounds_toArray, List.set_cons_succ, List.set_cons_zero]
    have cB_0 : _ = some _ := blk_cell kB 0
    have cB_1 : _ = some _ := blk_cell kB 1
    have fB_0 := blk_free kB 0
    have fB_1 := blk_free kB 1
    have oB := blk_older kB
    go_wp2_with fail
    refine box_end1 gB hK ?_ ?_
    · exact (by repeat (first | with_reducible exact Below.refl _ _ | with_reducible assumption | refine bgw ?_ (by first | (simp; done) | (simp; omega) | omega) _ | refine Below.setCell ?_ (by first | exact Nat.le_of_not_lt (by assumption) | (simp; done) | (simp; omega) | omega) _ | refine Below.alloc ?_ (by first | (simp; done) | (simp; omega) | omega) _ | refine Below.drew ?_))
    · exact (by repeat' (first | with_reducible assumption | with_reducible apply blk_gw | with_reducible apply blk_alloc | with_reducible apply blk_set | ((with_reducible apply blk_other); focus (first | omega | assumption))))
  intro bB p0 nB  kB
  have cB_0 : _ = some _ := blk_cell kB 0
  have cB_1 : _ = some _ := blk_cell kB 1
  have fB_0 := blk_free kB 0
  have fB_1 := blk_free kB 1
  have oB := blk_older kB
  go_wp2_with (first
    | (go_at_call 23; (with_reducible_and_instances refine Calls.mono (gw_at (k1 _)) ?_); rintro e w1 ⟨rfl, q, rfl⟩)
    | (go_at_call 23; (with_reducible_and_instances refine Calls.mono (gw_at (k2 _)) ?_); rintro e w1 ⟨rfl, q, rfl⟩)
    | (go_at_call 16; (with_reducible_and_instances refine Calls.mono (gw_at (cI _)) ?_); rintro e w1 ⟨rfl, q, rfl⟩)
    | (go_at_call 13; (with_reducible_and_instances refine Calls.mono (gw_at (example10_b _)) ?_); rintro e w1 ⟨rfl, q, rfl⟩))
  go_ret
  exact ⟨rfl, (by repeat (first | with_reducible exact Below.refl _ _ | with_reducible assumption | refine bgw ?_ (by first | (simp; done) | (simp; omega) | omega) _ | refine Below.setCell ?_ (by first | exact Nat.le_of_not_lt (by assumption) | (simp; done) | (simp; omega) | omega) _ | refine Below.alloc ?_ (by first | (simp; done) | (simp; omega) | omega) _ | refine Below.drew ?_))⟩

end Go.Proofs.Ytconfbdnhalmoaa
