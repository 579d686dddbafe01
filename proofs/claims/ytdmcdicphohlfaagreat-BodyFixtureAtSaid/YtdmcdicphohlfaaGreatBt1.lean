/- Chapter 23: body.Equal, part 1. -/
import Derived.Test.YtdmcdicphohlfaaGreatBkN
import Derived.Test.YtdmcdicphohlfaaGreatBkE
import Derived.Test.YtdmcdicphohlfaaGreatBkQ
set_option linter.unusedVariables false
set_option linter.unusedSimpArgs false
namespace Go.Proofs.YtdmcdicphohlfaaGreat
open Go.RowKit Fx Go.Maps

set_option maxRecDepth 100000 in
set_option maxHeartbeats 16000000 in
theorem peq1_b (a b : Bdy) (w : World) (h0 : (a.i == b.i) = true) (h1 : (a.k == b.k) = true) (h2 : (a.px == b.px && a.py == b.py && a.pa == b.pa) = true) (h3 : (a.vx == b.vx && a.vy == b.vy) = true) (hn : ((a.av == b.av) && (a.fx == b.fx && a.fy == b.fy) && (a.tq == b.tq) && (a.ld == b.ld)) = false) : Calls Tryz.prog 36 #[.agg (bdc a).toArray, .agg (bdc b).toArray] w fun e w' => e = .returned (.bool false) ∧ Below w.heap.size w w' := by
  cases h4 : (a.av == b.av)
  focus
    clear hn
    have eT := fun W => (eq_tr23 a.px a.py a.pa b.px b.py b.pa W).trans (show _ = Result.ok (Value.bool true) W by rw [h2])
    clear h2
    have eV := fun W => (eq_vec23 a.vx a.vy b.vx b.vy W).trans (show _ = Result.ok (Value.bool true) W by rw [h3])
    clear h3
    go_enter Tryz.func36, Tryz.ntmps36
    go_upto_region 1 with fail
    refine wp_named ?_
    intro V hV
    have ka : blk V (w.heap.size) (bdc a).toArray 29 := by rw [hV]; exact bBkn
    have kb : blk V (w.heap.size + 1) (bdc b).toArray 29 := by rw [hV]; exact bBkn
    have hbV : Below w.heap.size w V := by rw [hV]; exact bBel
    clear hV
    have hszV := hbV.size
    have oa := blk_older ka
    obtain ⟨ca0, ca1, ca2, ca3, ca4, ca5, ca6, ca7, ca8, ca9, ca10, ca11, ca12, ca13, ca14, ca15, ca16, ca17, ca18, ca19⟩ := bd_cells ka
    have ob := blk_older kb
    obtain ⟨cb0, cb1, cb2, cb3, cb4, cb5, cb6, cb7, cb8, cb9, cb10, cb11, cb12, cb13, cb14, cb15, cb16, cb17, cb18, cb19⟩ := bd_cells kb
    go_wp2_with fail
    go_ret
    exact ⟨rfl, bBel⟩
  cases h5 : (a.fx == b.fx && a.fy == b.fy)
  focus
    clear hn
    have eT := fun W => (eq_tr23 a.px a.py a.pa b.px b.py b.pa W).trans (show _ = Result.ok (Value.bool true) W by rw [h2])
    clear h2
    have eV := fun W => (eq_vec23 a.vx a.vy b.vx b.vy W).trans (show _ = Result.ok (Value.bool true) W by rw [h3])
    clear h3
    have eF := fun W => (eq_vec23 a.fx a.fy b.fx b.fy W).trans (show _ = Result.ok (Value.bool false) W by rw [h5])
    clear h5
    go_enter Tryz.func36, Tryz.ntmps36
    go_upto_region 1 with fail
    refine wp_named ?_
    intro V hV
    have ka : blk V (w.heap.size) (bdc a).toArray 29 := by rw [hV]; exact bBkn
    have kb : blk V (w.heap.size + 1) (bdc b).toArray 29 := by rw [hV]; exact bBkn
    have hbV : Below w.heap.size w V := by rw [hV]; exact bBel
    clear hV
    have hszV := hbV.size
    have oa := blk_older ka
    obtain ⟨ca0, ca1, ca2, ca3, ca4, ca5, ca6, ca7, ca8, ca9, ca10, ca11, ca12, ca13, ca14, ca15, ca16, ca17, ca18, ca19⟩ := bd_cells ka
    have ob := blk_older kb
    obtain ⟨cb0, cb1, cb2, cb3, cb4, cb5, cb6, cb7, cb8, cb9, cb10, cb11, cb12, cb13, cb14, cb15, cb16, cb17, cb18, cb19⟩ := bd_cells kb
    go_wp2_with fail
    go_ret
    exact ⟨rfl, bBel⟩
  cases h6 : (a.tq == b.tq)
  focus
    clear hn
    have eT := fun W => (eq_tr23 a.px a.py a.pa b.px b.py b.pa W).trans (show _ = Result.ok (Value.bool true) W by rw [h2])
    clear h2
    have eV := fun W => (eq_vec23 a.vx a.vy b.vx b.vy W).trans (show _ = Result.ok (Value.bool true) W by rw [h3])
    clear h3
    have eF := fun W => (eq_vec23 a.fx a.fy b.fx b.fy W).trans (show _ = Result.ok (Value.bool true) W by rw [h5])
    clear h5
    go_enter Tryz.func36, Tryz.ntmps36
    go_upto_region 1 with fail
    refine wp_named ?_
    intro V hV
    have ka : blk V (w.heap.size) (bdc a).toArray 29 := by rw [hV]; exact bBkn
    have kb : blk V (w.heap.size + 1) (bdc b).toArray 29 := by rw [hV]; exact bBkn
    have hbV : Below w.heap.size w V := by rw [hV]; exact bBel
    clear hV
    have hszV := hbV.size
    have oa := blk_older ka
    obtain ⟨ca0, ca1, ca2, ca3, ca4, ca5, ca6, ca7, ca8, ca9, ca10, ca11, ca12, ca13, ca14, ca15, ca16, ca17, ca18, ca19⟩ := bd_cells ka
    have ob := blk_older kb
    obtain ⟨cb0, cb1, cb2, cb3, cb4, cb5, cb6, cb7, cb8, cb9, cb10, cb11, cb12, cb13, cb14, cb15, cb16, cb17, cb18, cb19⟩ := bd_cells kb
    go_wp2_with fail
    go_ret
    exact ⟨rfl, bBel⟩
  have h7 : (a.ld == b.ld) = false := by
    cases hx : (a.ld == b.ld)
    · rfl
    · rw [h4, h5, h6, hx] at hn; simp at hn
  clear hn
  have eT := fun W => (eq_tr23 a.px a.py a.pa b.px b.py b.pa W).trans (show _ = Result.ok (Value.bool true) W by rw [h2])
  clear h2
  have eV := fun W => (eq_vec23 a.vx a.vy b.vx b.vy W).trans (show _ = Result.ok (Value.bool true) W by rw [h3])
  clear h3
  have eF := fun W => (eq_vec23 a.fx a.fy b.fx b.fy W).trans (show _ = Result.ok (Value.bool true) W by rw [h5])
  clear h5
  go_enter Tryz.func36, Tryz.ntmps36
  go_upto_region 1 with fail
  refine wp_named ?_
  intro V hV
  have ka : blk V (w.heap.size) (bdc a).toArray 29 := by rw [hV]; exact bBkn
  have kb : blk V (w.heap.size + 1) (bdc b).toArray 29 := by rw [hV]; exact bBkn
  have hbV : Below w.heap.size w V := by rw [hV]; exact bBel
  clear hV
  have hszV := hbV.size
  have oa := blk_older ka
  obtain ⟨ca0, ca1, ca2, ca3, ca4, ca5, ca6, ca7, ca8, ca9, ca10, ca11, ca12, ca13, ca14, ca15, ca16, ca17, ca18, ca19⟩ := bd_cells ka
  have ob := blk_older kb
  obtain ⟨cb0, cb1, cb2, cb3, cb4, cb5, cb6, cb7, cb8, cb9, cb10, cb11, cb12, cb13, cb14, cb15, cb16, cb17, cb18, cb19⟩ := bd_cells kb
  go_wp2_with fail
  go_ret
  exact ⟨rfl, bBel⟩


end Go.Proofs.YtdmcdicphohlfaaGreat
