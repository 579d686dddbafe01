/- Contracts of package manifold: Clone, Flip, round shapes. -/
import Derived.Test.YtiecpebckmihgaaGreatMnP
set_option linter.unusedVariables false
namespace Go.Proofs.YtiecpebckmihgaaGreat
open Go.RowKit Fx

theorem ng_wrap (x : Int) : wrap64 (-x) = ng x := (IntWalk.i64_left (-x)).symm
theorem mnf_mk {w w' : World} {nx ny : Int} {l : List Cnt} {A' : Option Addr} {cap' : Nat} (h1 : l.length ≤ cap') (h2 : cap' ≤ maxLen) (h3 : A' = none → cap' = 0) (h4 : Cnts w' A' l) (h5 : Fr w.heap.size A' l) (h6 : Below w.heap.size w w') : MnF w ⟨nx, ny, l⟩ (.returned (.agg #[.int .i64 nx, .int .i64 ny, .slice A' l.length cap'])) w' :=
  ⟨⟨A', cap', rfl, h1, h2, h3, h4, h5⟩, h6⟩
theorem mnr_mk {w w' : World} {nx ny : Int} {l : List Cnt} {A' : Option Addr} {cap' : Nat} (h1 : l.length ≤ cap') (h2 : cap' ≤ maxLen) (h3 : A' = none → cap' = 0) (h4 : Cnts w' A' l) (h6 : Below w.heap.size w w') : MnR w ⟨nx, ny, l⟩ (.returned (.agg #[.int .i64 nx, .int .i64 ny, .slice A' l.length cap'])) w' :=
  ⟨⟨A', cap', rfl, h1, h2, h3, h4⟩, h6⟩

set_option maxHeartbeats 4000000 in
theorem mclo_b (nx ny : Int) (A : Option Addr) (cap : Nat) (l : List Cnt) (hl : l.length ≤ 1000000) (hlc : l.length ≤ cap) (hA : A = none → cap = 0) (w : World) (hp : Cnts w A l) : Calls Tryz.prog 88 #[.agg #[.int .i64 nx, .int .i64 ny, .slice A l.length cap]] w (MnF w ⟨nx, ny, l⟩) := by
  obtain ⟨i0, hi, hz0, hz1, hz2⟩ := info_parts info_cnt
  go_enter Tryz.func88, Tryz.ntmps88
  go_upto_region 1 with fail
  refine wp_named ?_
  intro W hW
  have kB : blk W w.heap.size #[.int .i64 nx, .int .i64 ny, .slice A l.length cap] 34 := by rw [hW]; exact bBkn
  have kR : blk W (w.heap.size + 1) #[.int .i64 0, .int .i64 0, .slice none 0 0] 34 := by rw [hW]; exact bBkn
  have hbW : Below w.heap.size w W := by rw [hW]; exact bBel
  have hzW : w.heap.size + 2 ≤ W.heap.size := by rw [hW]; simp
  clear hW
  have hP : Cnts W A l := Cnts.to hp hbW
  have okB := blk_older kB
  have ckB_0 : _ = some _ := blk_cell kB 0
  have ckB_1 : _ = some _ := blk_cell kB 1
  have ckB_2 : _ = some _ := blk_cell kB 2
  have fkB_0 := blk_free kB 0
  have fkB_1 := blk_free kB 1
  have fkB_2 := blk_free kB 2
  have okR := blk_older kR
  have ckR_0 : _ = some _ := blk_cell kR 0
  have ckR_1 : _ = some _ := blk_cell kR 1
  have ckR_2 : _ = some _ := blk_cell kR 2
  have fkR_0 := blk_free kR 0
  have fkR_1 := blk_free kR 1
  have fkR_2 := blk_free kR 2
  go_wp2_with (at_builtin; refine wpList_appK rfl _ _ 32 rfl W.heap.size 39 i0 (.agg #[.int .i64 0, .int .i64 0, .int .i64 0, .int .i64 0, .int .i64 0, .int .i64 0]) 6 48 Tryz.underlying32 hi hz0 hz1 hz2 rfl (by decide) _ 0 [] rfl (World.ownsRow_nil _ _ _ 6) A l.length cap (l.flatMap cnc) rfl hA hlc (flat_len cnc_len l) (cs_of_cnts hP) (cnc_one l) (by unfold maxLen; omega) (by omega) (Nat.le_refl _) ?_; intro v5 w5 hown5 hb5; obtain ⟨A5, c5, rfl, he5, hle5, hmx5, hnil5, hP5, hfr5⟩ := owns_cnts (l := l) (by simpa using hown5); clear hown5; obtain ⟨q5, rfl⟩ := gw_of_below hb5; clear hb5)
  refine post_named ?_
  intro Z hZ
  have kZ : blk Z (w.heap.size + 1) #[.int .i64 nx, .int .i64 ny, .slice A5 l.length c5] 34 := by rw [hZ]; exact (by apply blk_of; (repeat (first | with_reducible exact kR | with_reducible apply blk_drew | with_reducible apply blk_gw | with_reducible apply blk_alloc | with_reducible apply blk_set | ((with_reducible apply blk_other); focus omega))); (first | rfl | simp))
  have hbZ : Below w.heap.size w Z := by rw [hZ]; exact bBel
  have hPZ : Cnts Z A5 l := by
    rcases hfr5 with h | ⟨b, rfl, hge⟩
    · exact .inl h
    · refine cnts_sm ?_ hP5
      rw [hZ]
      repeat (first | with_reducible exact sm_refl _ _ | with_reducible refine sm_gw ?_ | with_reducible refine sm_set ?_ (by omega))
  have hfr : Fr w.heap.size A5 l := by
    rcases hfr5 with h | ⟨b, rfl, hge⟩
    · exact .inl h
    · exact .inr ⟨b, rfl, by omega⟩
  clear hZ
  have okZ := blk_older kZ
  have ckZ_0 : _ = some _ := blk_cell kZ 0
  have ckZ_1 : _ = some _ := blk_cell kZ 1
  have ckZ_2 : _ = some _ := blk_cell kZ 2
  have fkZ_0 := blk_free kZ 0
  have fkZ_1 := blk_free kZ 1
  have fkZ_2 := blk_free kZ 2
  exact bodyPost_ret (v := .agg #[.int .i64 nx, .int .i64 ny, .slice A5 l.length c5]) (by simp [results, Tryz.results88, go_sem, ckZ_0, ckZ_1, ckZ_2]) rfl (mnf_mk hle5 hmx5 hnil5 hPZ hfr hbZ)

set_option maxHeartbeats 4000000 in
theorem mflip_b (nx ny : Int) (A : Option Addr) (cap : Nat) (l : List Cnt) (hl : l.length ≤ 1000000) (hlc : l.length ≤ cap) (hA : A = none → cap = 0) (w : World) (hp : Cnts w A l) : Calls Tryz.prog 44 #[.agg #[.int .i64 nx, .int .i64 ny, .slice A l.length cap]] w (MnF w ⟨ng nx, ng ny, l⟩) := by
  have cC := fun w' h => mnf_ex (mclo_b nx ny A cap l hl hlc hA w' h)
  go_enter Tryz.func44, Tryz.ntmps44
  go_upto_region 1 with fail
  refine wp_named ?_
  intro W hW
  have kB : blk W w.heap.size #[.int .i64 nx, .int .i64 ny, .slice A l.length cap] 34 := by rw [hW]; exact bBkn
  have kR : blk W (w.heap.size + 1) #[.int .i64 0, .int .i64 0, .slice none 0 0] 34 := by rw [hW]; exact bBkn
  have hbW : Below w.heap.size w W := by rw [hW]; exact bBel
  have hzW : w.heap.size + 2 ≤ W.heap.size := by rw [hW]; simp
  clear hW
  have hP : Cnts W A l := Cnts.to hp hbW
  have okB := blk_older kB
  have ckB_0 : _ = some _ := blk_cell kB 0
  have ckB_1 : _ = some _ := blk_cell kB 1
  have ckB_2 : _ = some _ := blk_cell kB 2
  have fkB_0 := blk_free kB 0
  have fkB_1 := blk_free kB 1
  have fkB_2 := blk_free kB 2
  have okR := blk_older kR
  have ckR_0 : _ = some _ := blk_cell kR 0
  have ckR_1 : _ = some _ := blk_cell kR 1
  have ckR_2 : _ = some _ := blk_cell kR 2
  have fkR_0 := blk_free kR 0
  have fkR_1 := blk_free kR 1
  have fkR_2 := blk_free kR 2
  go_upto_region 2 with (go_at_call 88; refine Calls.mono (cC _ (Cnts.to hP bBel)) ?_; rintro e w1 ⟨⟨A5, c5, rfl, hle5, hmx5, hnil5, hP5, hfr5⟩, q5, rfl⟩)
  refine wp_named ?_
  intro X hX
  have kB1 : blk X w.heap.size #[.int .i64 nx, .int .i64 ny, .slice A5 l.length c5] 34 := by rw [hX]; exact (by apply blk_of; (repeat (first | with_reducible exact kB | with_reducible apply blk_drew | with_reducible apply blk_gw | with_reducible apply blk_alloc | with_reducible apply blk_set | ((with_reducible apply blk_other); focus omega))); (first | rfl | simp))
  have kR1 : blk X (w.heap.size + 1) #[.int .i64 0, .int .i64 0, .slice none 0 0] 34 := by rw [hX]; exact (by apply blk_of; (repeat (first | with_reducible exact kR | with_reducible apply blk_drew | with_reducible apply blk_gw | with_reducible apply blk_alloc | with_reducible apply blk_set | ((with_reducible apply blk_other); focus omega))); (first | rfl | simp))
  have hbX : Below w.heap.size w X := by rw [hX]; exact bBel
  have hPX : Cnts X A5 l := by
    rcases hfr5 with h | ⟨b, rfl, hge⟩
    · exact .inl h
    · refine cnts_sm ?_ hP5
      rw [hX]
      try simp at hge
      repeat (first | with_reducible exact sm_refl _ _ | with_reducible refine sm_gw ?_ | with_reducible refine sm_set ?_ (by omega))
  have hfr : l = [] ∨ ∃ b, A5 = some ⟨b, 0, none⟩ ∧ w.heap.size + 2 ≤ b := by
    rcases hfr5 with h | ⟨b, rfl, hge⟩
    · exact .inl h
    · exact .inr ⟨b, rfl, by (try simp at hge); omega⟩
  clear hX hP5 hfr5 hP okB okR ckB_0 ckB_1 ckB_2 fkB_0 fkB_1 fkB_2 ckR_0 ckR_1 ckR_2 fkR_0 fkR_1 fkR_2 kB kR hbW hzW
  clear q5
  have okB1 := blk_older kB1
  have ckB1_0 : _ = some _ := blk_cell kB1 0
  have ckB1_1 : _ = some _ := blk_cell kB1 1
  have ckB1_2 : _ = some _ := blk_cell kB1 2
  have fkB1_0 := blk_free kB1 0
  have fkB1_1 := blk_free kB1 1
  have fkB1_2 := blk_free kB1 2
  have okR1 := blk_older kR1
  have ckR1_0 : _ = some _ := blk_cell kR1 0
  have ckR1_1 : _ = some _ := blk_cell kR1 1
  have ckR1_2 : _ = some _ := blk_cell kR1 2
  have fkR1_0 := blk_free kR1 0
  have fkR1_1 := blk_free kR1 1
  have fkR1_2 := blk_free kR1 2
  go_wp2_with fail
  refine post_named ?_
  intro Z hZ
  have kZ : blk Z (w.heap.size + 1) #[.int .i64 (wrap64 (-nx)), .int .i64 (wrap64 (-ny)), .slice A5 l.length c5] 34 := by rw [hZ]; exact (by apply blk_of; (repeat (first | with_reducible exact kB1 | with_reducible exact kR1 | with_reducible apply blk_drew | with_reducible apply blk_gw | with_reducible apply blk_alloc | with_reducible apply blk_set | ((with_reducible apply blk_other); focus omega))); (first | rfl | simp))
  rw [ng_wrap, ng_wrap] at kZ
  have hbZ : Below w.heap.size w Z := by rw [hZ]; exact bBel
  have hPZ : Cnts Z A5 l := by
    rcases hfr with h | ⟨b, rfl, hge⟩
    · exact .inl h
    · refine cnts_sm ?_ hPX
      rw [hZ]
      repeat (first | with_reducible exact sm_refl _ _ | with_reducible refine sm_gw ?_ | with_reducible refine sm_set ?_ (by omega))
  have hfr2 : Fr w.heap.size A5 l := by
    rcases hfr with h | ⟨b, rfl, hge⟩
    · exact .inl h
    · exact .inr ⟨b, rfl, by omega⟩
  clear hZ
  have okZ := blk_older kZ
  have ckZ_0 : _ = some _ := blk_cell kZ 0
  have ckZ_1 : _ = some _ := blk_cell kZ 1
  have ckZ_2 : _ = some _ := blk_cell kZ 2
  have fkZ_0 := blk_free kZ 0
  have fkZ_1 := blk_free kZ 1
  have fkZ_2 := blk_free kZ 2
  exact bodyPost_ret (v := .agg #[.int .i64 (ng nx), .int .i64 (ng ny), .slice A5 l.length c5]) (by simp [results, Tryz.results44, go_sem, ckZ_0, ckZ_1, ckZ_2]) rfl (mnf_mk hle5 hmx5 hnil5 hPZ hfr2 hbZ)

end Go.Proofs.YtiecpebckmihgaaGreat
