/- Contracts of package manifold: small functions, the closure that adds points, Clone, Flip, Equal. -/
import Derived.Test.YtiecpebckmihgaaGreatMnT
import Derived.Test.YtiecpebckmihgaaGreatFixRP
import Derived.Test.YtiecpebckmihgaaGreatCoD
import Derived.Deep.AppendLies
import Derived.Deep.RegionLaw
set_option linter.unusedVariables false
namespace Go.Proofs.YtiecpebckmihgaaGreat
open Go.RowKit Fx

theorem mhalf_b (x : Int) (w : World) : Calls Tryz.prog 84 #[.int .i64 x] w fun e w' => e = .returned (.int .i64 (rdiv x 2)) ∧ Below w.heap.size w w' := by
  go_enter Tryz.func84, Tryz.ntmps84
  go_wp2_with (first | (go_at_call 125; refine Calls.mono (gw_at (rd_b _ _ _)) ?_; rintro e w1 ⟨rfl, q, rfl⟩))
  go_ret
  exact ⟨rfl, bBel⟩

theorem mdist_b (fx fy tx ty : Int) (w : World) : Calls Tryz.prog 82 #[.agg #[.int .i64 fx, .int .i64 fy], .agg #[.int .i64 tx, .int .i64 ty]] w fun e w' => e = .returned (.int .i64 (vlen (sub tx fx) (sub ty fy))) ∧ Below w.heap.size w w' := by
  go_enter Tryz.func82, Tryz.ntmps82
  go_wp2_with (first | (go_at_call 36; refine Calls.mono (gw_at (vsub_b _ _ _ _ _)) ?_; rintro e w1 ⟨rfl, q, rfl⟩) | (go_at_call 35; refine Calls.mono (gw_at (vlen_b _ _ _)) ?_; rintro e w1 ⟨rfl, q, rfl⟩))
  go_ret
  exact ⟨rfl, bBel⟩

def dirO (fx fy tx ty gx gy : Int) : Pt := if fx = tx ∧ fy = ty then (gx, gy) else (unit (sub tx fx) (vlen (sub tx fx) (sub ty fy)), unit (sub ty fy) (vlen (sub tx fx) (sub ty fy)))

theorem mdir_b (fx fy tx ty gx gy : Int) (w : World) : Calls Tryz.prog 80 #[.agg #[.int .i64 fx, .int .i64 fy], .agg #[.int .i64 tx, .int .i64 ty], .agg #[.int .i64 gx, .int .i64 gy]] w fun e w' => e = .returned (.agg #[.int .i64 (dirO fx fy tx ty gx gy).1, .int .i64 (dirO fx fy tx ty gx gy).2]) ∧ Below w.heap.size w w' := by
  by_cases h : fx = tx ∧ fy = ty
  · obtain ⟨rfl, rfl⟩ := h
    rw [show dirO fx fy fx fy gx gy = (gx, gy) from if_pos ⟨rfl, rfl⟩]
    go_enter Tryz.func80, Tryz.ntmps80
    go_wp2_with (first | (go_at_call 36; refine Calls.mono (gw_at (vsub_b _ _ _ _ _)) ?_; rintro e w1 ⟨rfl, q, rfl⟩) | (go_at_call 122; refine Calls.mono (gw_at (vnorm_b _ _ _)) ?_; rintro e w1 ⟨rfl, q, rfl⟩))
    exact bodyPost_ret (v := .agg #[.int .i64 gx, .int .i64 gy]) (by simp [results, Tryz.results80, go_sem]; try (first | with_reducible rfl | exact ⟨rfl, rfl⟩ | exact ⟨rfl, rfl, rfl⟩ | exact ⟨rfl, rfl, rfl, rfl⟩ | exact ⟨rfl, rfl, rfl, rfl, rfl⟩ | exact ⟨rfl, rfl, rfl, rfl, rfl, rfl⟩ | rfl)) rfl ⟨rfl, bBel⟩
  · rw [show dirO fx fy tx ty gx gy = (unit (sub tx fx) (vlen (sub tx fx) (sub ty fy)), unit (sub ty fy) (vlen (sub tx fx) (sub ty fy))) from if_neg h]
    have hc : (fx == tx) = false ∨ ((fx == tx) = true ∧ (fy == ty) = false) := by
      simp only [beq_eq_false_iff_ne, beq_iff_eq]; by_cases h1 : fx = tx
      · exact .inr ⟨h1, fun h2 => h ⟨h1, h2⟩⟩
      · exact .inl h1
    clear h
    have c1 := fun w' => vsub_b tx ty fx fy w'
    have c2 := fun w' => vnorm_b (sub tx fx) (sub ty fy) w'
    generalize sub tx fx = dx at *
    generalize sub ty fy = dy at *
    generalize unit dx (vlen dx dy) = nx at *
    generalize unit dy (vlen dx dy) = ny at *
    rcases hc with h | ⟨h, h'⟩
    all_goals
      go_enter Tryz.func80, Tryz.ntmps80
      go_wp2_with (first | (go_at_call 36; with_reducible_and_instances refine Calls.mono (gw_at (c1 _)) ?_; rintro e w1 ⟨rfl, q, rfl⟩) | (go_at_call 122; with_reducible_and_instances refine Calls.mono (gw_at (c2 _)) ?_; rintro e w1 ⟨rfl, q, rfl⟩))
      exact bodyPost_ret (v := .agg #[.int .i64 nx, .int .i64 ny]) (by simp [results, Tryz.results80, go_sem]; try (first | with_reducible rfl | exact ⟨rfl, rfl⟩ | exact ⟨rfl, rfl, rfl⟩ | exact ⟨rfl, rfl, rfl, rfl⟩ | exact ⟨rfl, rfl, rfl, rfl, rfl⟩ | exact ⟨rfl, rfl, rfl, rfl, rfl, rfl⟩ | rfl)) rfl ⟨rfl, bBel⟩

theorem madder_b (M : Nat) (w : World) : Calls Tryz.prog 81 #[.pointer (some ⟨M, 0, none⟩)] w fun e w' => e = .returned (.func (.func 123) #[] #[.pointer (some ⟨w.heap.size, 0, none⟩)]) ∧ w' = w.alloc (.cells #[.pointer (some ⟨M, 0, none⟩)] 98) := by
  go_enter Tryz.func81, Tryz.ntmps81
  go_wp2_with fail
  go_ret
  exact ⟨rfl, rfl⟩

theorem madd0_b (bx : Nat) (sx sy ah sep id : Int) (h : 1024 < sep) (w : World) : Calls Tryz.prog 123 #[.agg #[.int .i64 sx, .int .i64 sy], .int .i64 ah, .int .i64 sep, .int .i64 id, .pointer (some ⟨bx, 0, none⟩)] w fun e w' => e = .returned (.tuple #[]) ∧ Below w.heap.size w w' := by
  go_enter Tryz.func123, Tryz.ntmps123
  go_wp2_with fail
  exact bodyPost_ret (v := .tuple #[]) (by simp [results, Tryz.results123, go_sem]) rfl ⟨rfl, bBel⟩

set_option maxRecDepth 100000 in
set_option maxHeartbeats 16000000 in
theorem madd1_b (bx M B : Nat) (nx ny : Int) (v : Value) (n : Nat) (xs : List Value) (sx sy ah sep id px py : Int) (h : ¬ 1024 < sep) (hx : add sx (mul nx ah) = px) (hy : add sy (mul ny ah) = py) (w : World) (kx : blk w bx #[.pointer (some ⟨M, 0, none⟩)] 98) (kM : blk w M #[.int .i64 nx, .int .i64 ny, v] 34) (hown : w.ownsRow B 39 6 v n xs) (hM : M < B) (hbx : bx < B) (hne : bx ≠ M) (hB : B ≤ w.heap.size) (hn : n ≤ 1000) :
    Calls Tryz.prog 123 #[.agg #[.int .i64 sx, .int .i64 sy], .int .i64 ah, .int .i64 sep, .int .i64 id, .pointer (some ⟨bx, 0, none⟩)] w fun e w' => e = .returned (.tuple #[]) ∧ ∃ v', blk w' bx #[.pointer (some ⟨M, 0, none⟩)] 98 ∧ blk w' M #[.int .i64 nx, .int .i64 ny, v'] 34 ∧ w'.ownsRow B 39 6 v' (n + 1) (xs ++ cnc ⟨px, py, sep, id, 0, 0⟩) ∧ Bel1 B M w w' := by
  have c1 := fun w' => vscale_b nx ny ah w'
  have c2 := fun w' => vadd_b sx sy (mul nx ah) (mul ny ah) w'
  rw [hx, hy] at c2
  obtain ⟨i0, hi, hz0, hz1, hz2⟩ := info_parts info_cnt
  clear hx hy
  generalize mul nx ah = mx at *
  generalize mul ny ah = my at *
  go_enter Tryz.func123, Tryz.ntmps123
  go_upto_region 2 with fail
  refine wp_named ?_
  intro W hW
  have kS : blk W w.heap.size #[.int .i64 sx, .int .i64 sy] 27 := by rw [hW]; exact bBkn
  have kx1 : blk W bx #[.pointer (some ⟨M, 0, none⟩)] 98 := by rw [hW]; exact (by apply blk_of; (repeat (first | with_reducible exact kx | with_reducible apply blk_drew | with_reducible apply blk_gw | with_reducible apply blk_alloc | with_reducible apply blk_set | ((with_reducible apply blk_other); focus omega))); (first | rfl | simp))
  have kM1 : blk W M #[.int .i64 nx, .int .i64 ny, v] 34 := by rw [hW]; exact (by apply blk_of; (repeat (first | with_reducible exact kM | with_reducible apply blk_drew | with_reducible apply blk_gw | with_reducible apply blk_alloc | with_reducible apply blk_set | ((with_reducible apply blk_other); focus omega))); (first | rfl | simp))
  have hbW : Below w.heap.size w W := by rw [hW]; exact bBel
  have hsz : W.heap.size = w.heap.size + 1 := by rw [hW]; simp
  clear hW h kx kM
  have hS := blk_lt kS
  have okS := blk_older kS
  have ckS_0 : _ = some _ := blk_cell kS 0
  have ckS_1 : _ = some _ := blk_cell kS 1
  have fkS_0 := blk_free kS 0
  have fkS_1 := blk_free kS 1
  have okx1 := blk_older kx1
  have ckx1_0 : _ = some _ := blk_cell kx1 0
  have fkx1_0 := blk_free kx1 0
  have okM1 := blk_older kM1
  have ckM1_0 : _ = some _ := blk_cell kM1 0
  have ckM1_1 : _ = some _ := blk_cell kM1 1
  have ckM1_2 : _ = some _ := blk_cell kM1 2
  have fkM1_0 := blk_free kM1 0
  have fkM1_1 := blk_free kM1 1
  have fkM1_2 := blk_free kM1 2
  apply wp_box1 9 33 8 9 #[.int .i64 0, .int .i64 0] 27 (by kernel_rfl) (by rfl) (by kernel_rfl) (by intro o ho a w; simp at ho; subst ho; simp [go_sem, ptr])
  · intro p0
    simp only [heads, ghost, List.take_succ_cons, List.take_zero, List.map_cons, List.map_nil]
    repeat (go_big_quiet_step ((first | (go_at_call 124; with_reducible_and_instances exact gw_call (c1 _)) | (go_at_call 69; with_reducible_and_instances exact gw_call (c2 _)))))
    exact wpQuiet_nil rfl
  · intro R bB p0 nB gB  kB hK
    simp only [List.drop_succ_cons, List.drop_zero, Act.put, ptr, List.setIfInBounds_toArray, List.set_cons_succ, List.set_cons_zero]
    have cB_0 : _ = some _ := blk_cell kB 0
    have cB_1 : _ = some _ := blk_cell kB 1
    have fB_0 := blk_free kB 0
    have fB_1 := blk_free kB 1
    have oB := blk_older kB
    go_wp2_with fail
    refine box_end1 gB hK ?_ ?_
    · exact bBel
    · exact (by repeat' (first | with_reducible assumption | with_reducible apply blk_gw | with_reducible apply blk_alloc | with_reducible apply blk_set | ((with_reducible apply blk_other); focus (first | omega | assumption))))
  intro bB p0 nB  kB
  have cB_0 : _ = some _ := blk_cell kB 0
  have cB_1 : _ = some _ := blk_cell kB 1
  have fB_0 := blk_free kB 0
  have fB_1 := blk_free kB 1
  have oB := blk_older kB
  refine then_nm ?_
  intro X hX
  have kP : blk X bB #[.int .i64 px, .int .i64 py] 27 := by rw [hX]; exact kB
  have kx2 : blk X bx #[.pointer (some ⟨M, 0, none⟩)] 98 := by rw [hX]; exact (by apply blk_of; (repeat (first | with_reducible exact kx1 | with_reducible apply blk_drew | with_reducible apply blk_gw | with_reducible apply blk_alloc | with_reducible apply blk_set | ((with_reducible apply blk_other); focus omega))); (first | rfl | simp))
  have kM2 : blk X M #[.int .i64 nx, .int .i64 ny, v] 34 := by rw [hX]; exact (by apply blk_of; (repeat (first | with_reducible exact kM1 | with_reducible apply blk_drew | with_reducible apply blk_gw | with_reducible apply blk_alloc | with_reducible apply blk_set | ((with_reducible apply blk_other); focus omega))); (first | rfl | simp))
  have hbX : Below w.heap.size w X := by rw [hX]; exact bBel
  have hszX := hbX.size
  clear hX kS kx1 kM1 hbW hsz hS okS ckS_0 ckS_1 fkS_0 fkS_1 okx1 ckx1_0 fkx1_0 okM1 ckM1_0 ckM1_1 ckM1_2 fkM1_0 fkM1_1 fkM1_2 nB kB cB_0 cB_1 fB_0 fB_1 oB c1 c2
  clear p0
  have okP := blk_older kP
  have ckP_0 : _ = some _ := blk_cell kP 0
  have ckP_1 : _ = some _ := blk_cell kP 1
  have fkP_0 := blk_free kP 0
  have fkP_1 := blk_free kP 1
  have okx2 := blk_older kx2
  have ckx2_0 : _ = some _ := blk_cell kx2 0
  have fkx2_0 := blk_free kx2 0
  have okM2 := blk_older kM2
  have ckM2_0 : _ = some _ := blk_cell kM2 0
  have ckM2_1 : _ = some _ := blk_cell kM2 1
  have ckM2_2 : _ = some _ := blk_cell kM2 2
  have fkM2_0 := blk_free kM2 0
  have fkM2_1 := blk_free kM2 1
  have fkM2_2 := blk_free kM2 2
  have hrow : v.ownBlock ≠ some bx ∧ v.ownBlock ≠ some M := by
    obtain ⟨_, ⟨rfl, _⟩ | ⟨g, cap, cur, rfl, hBg, hg, _⟩⟩ := hown
    · simp [Value.ownBlock]
    · simp [Value.ownBlock]; omega
  have hownX := owns_below hown hbX
  go_upto_region 3 with fail
  go_region_law ((refine step_append_lies _ rfl _ _ 32 rfl B 39 i0 (.agg #[.int .i64 0, .int .i64 0, .int .i64 0, .int .i64 0, .int .i64 0, .int .i64 0]) 6 48 Tryz.underlying32 hi hz0 hz1 hz2 rfl (by decide) v n xs rfl (owns_below hownX bBel) _ 1 1 [.int .i64 px, .int .i64 py, .int .i64 sep, .int .i64 id, .int .i64 0, .int .i64 0] rfl rfl (World.news_of_block (cs := #[.int .i64 px, .int .i64 py, .int .i64 sep, .int .i64 id, .int .i64 0, .int .i64 0]) (t := 39) (fr := (0, 0)) (show blk _ _ #[.int .i64 px, .int .i64 py, .int .i64 sep, .int .i64 id, .int .i64 0, .int .i64 0] 39 from bBkn)) (fun u hu => by simp at hu; rcases hu with rfl | rfl | rfl | rfl | rfl | rfl <;> rfl) (by decide) (by unfold maxLen; omega) (by omega) (by first | (simp; omega) | omega) _ rfl ?_; intro g cap w2 hown2 hgrow hat hlt; have kx5 := blk_grown hgrow (by apply blk_of; (repeat (first | with_reducible exact kx2 | with_reducible apply blk_drew | with_reducible apply blk_gw | with_reducible apply blk_alloc | with_reducible apply blk_set | ((with_reducible apply blk_other); focus omega))); (first | rfl | simp)) hrow.1; have kM5 := blk_grown hgrow (by apply blk_of; (repeat (first | with_reducible exact kM2 | with_reducible apply blk_drew | with_reducible apply blk_gw | with_reducible apply blk_alloc | with_reducible apply blk_set | ((with_reducible apply blk_other); focus omega))); (first | rfl | simp)) hrow.2; have cx5 := blk_cell kx5 0; have ox5 := blk_older kx5; have cM5 := blk_cell kM5 2; have fM5 := blk_free kM5 2; have oM5 := blk_older kM5))
  all_goals
    have hne2 : (Value.slice (some ⟨g, 0, none⟩) (n + 1) cap).ownBlock ≠ some M := by
      obtain ⟨_, ⟨h5, _⟩ | ⟨g', cap', cur, h5, hBg, _⟩⟩ := hown2
      · cases h5
      · cases h5; simp [Value.ownBlock]; omega
    have hbY : Below B w w2 := by
      refine Below.trans (hbX.mono hB) (Below.trans (b := (X.alloc (.cells #[.int .i64 px, .int .i64 py, .int .i64 sep, .int .i64 id, .int .i64 0, .int .i64 0] 39)).drew) ?_ ⟨hgrow.os, hgrow.tape, hgrow.output, hgrow.size, fun k hk => hgrow.block k (by simp; omega) fun hk' => ?_⟩)
      · exact bBel
      · obtain ⟨_, ⟨rfl, _⟩ | ⟨g', cap', cur, rfl, hBg, _⟩⟩ := hown
        · simp [Value.ownBlock] at hk'
        · simp [Value.ownBlock] at hk'; omega
    exact bodyPost_end (v := .tuple #[]) (by simp [results, Tryz.results123, go_sem]) rfl ⟨rfl, _, blk_other (Ne.symm hne) kx5, blk_of (blk_set kM5) rfl, ownsRow_setCell_other hown2 hne2 _, _, 2, _, hbY, rfl⟩

end Go.Proofs.YtiecpebckmihgaaGreat
