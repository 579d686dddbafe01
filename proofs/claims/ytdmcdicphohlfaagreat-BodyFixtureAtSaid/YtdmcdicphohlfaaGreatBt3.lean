/- Chapter 23: body.Equal, part 3. -/
import Derived.Test.YtdmcdicphohlfaaGreatBkN
import Derived.Test.YtdmcdicphohlfaaGreatBkE
import Derived.Test.YtdmcdicphohlfaaGreatBkQ
set_option linter.unusedVariables false
set_option linter.unusedSimpArgs false
namespace Go.Proofs.YtdmcdicphohlfaaGreat
open Go.RowKit Fx Go.Maps

set_option maxRecDepth 100000 in
set_option maxHeartbeats 16000000 in
theorem peq3_b (a b : Bdy) (w : World) (hoa : okL a) (hob : okL b) (Df : Bool) (hDf : Df = true ↔ a.fs.map fx0 = b.fs.map fx0) (ha : BdIn w a) (hb : BdIn w b) (h0 : (a.i == b.i) = true) (h1 : (a.k == b.k) = true) (h2 : (a.px == b.px && a.py == b.py && a.pa == b.pa) = true) (h3 : (a.vx == b.vx && a.vy == b.vy) = true) (h4 : (a.av == b.av) = true) (h5 : (a.fx == b.fx && a.fy == b.fy) = true) (h6 : (a.tq == b.tq) = true) (h7 : (a.ld == b.ld) = true) (h8 : (a.ad == b.ad) = true) (h9 : (a.gs == b.gs) = true) (h10 : (a.bul == b.bul) = true) (h11 : (a.fix == b.fix) = true) : Calls Tryz.prog 36 #[.agg (bdc a).toArray, .agg (bdc b).toArray] w fun e w' => e = .returned (.bool ((a.nos == b.nos) && (a.asl == b.asl) && (a.idl == b.idl) && Df)) ∧ Below w.heap.size w w' := by
  have cE := fun (w' : World) (hx : Fxs w' a.A a.fs ∧ Fxs w' b.A b.fs) => xeqf_b a.A b.A a.cap b.cap a.fs b.fs hoa.1 hob.1 hoa.2 hob.2 Df hDf w' hx.1 hx.2
  have hfa := ha.1
  have hfb := hb.1
  clear ha hb hoa hob hDf
  cases h12 : (a.nos == b.nos)
  focus
    simp only [Bool.false_and, Bool.true_and]
    clear cE hfa hfb
    have eT := fun W => (eq_tr23 a.px a.py a.pa b.px b.py b.pa W).trans (show _ = Result.ok (Value.bool true) W by rw [h2])
    clear h2
    have eV := fun W => (eq_vec23 a.vx a.vy b.vx b.vy W).trans (show _ = Result.ok (Value.bool true) W by rw [h3])
    clear h3
    have eF := fun W => (eq_vec23 a.fx a.fy b.fx b.fy W).trans (show _ = Result.ok (Value.bool true) W by rw [h5])
    clear h5
    go_enter Tryz.func36, Tryz.ntmps36
    go_upto_region 1 with fail
    refine wp_named ?_
    intro V hV
    have ka : blk V (w.heap.size) (bdc a).toArray 29 := by rw [hV]; exact bBkn
    have kb : blk V (w.heap.size + 1) (bdc b).toArray 29 := by rw [hV]; exact bBkn
    have hbV : Below w.heap.size w V := by rw [hV]; exact bBel
    clear hV
    have hszV := hbV.size
    have oa := blk_older ka
    obtain ⟨ca0, ca1, ca2, ca3, ca4, ca5, ca6, ca7, ca8, ca9, ca10, ca11, ca12, ca13, ca14, ca15, ca16, ca17, ca18, ca19⟩ := bd_cells ka
    have ob := blk_older kb
    obtain ⟨cb0, cb1, cb2, cb3, cb4, cb5, cb6, cb7, cb8, cb9, cb10, cb11, cb12, cb13, cb14, cb15, cb16, cb17, cb18, cb19⟩ := bd_cells kb
    go_wp2_with fail
    go_ret
    exact ⟨rfl, bBel⟩
  cases h13 : (a.asl == b.asl)
  focus
    simp only [Bool.false_and, Bool.true_and]
    clear cE hfa hfb
    have eT := fun W => (eq_tr23 a.px a.py a.pa b.px b.py b.pa W).trans (show _ = Result.ok (Value.bool true) W by rw [h2])
    clear h2
    have eV := fun W => (eq_vec23 a.vx a.vy b.vx b.vy W).trans (show _ = Result.ok (Value.bool true) W by rw [h3])
    clear h3
    have eF := fun W => (eq_vec23 a.fx a.fy b.fx b.fy W).trans (show _ = Result.ok (Value.bool true) W by rw [h5])
    clear h5
    go_enter Tryz.func36, Tryz.ntmps36
    go_upto_region 1 with fail
    refine wp_named ?_
    intro V hV
    have ka : blk V (w.heap.size) (bdc a).toArray 29 := by rw [hV]; exact bBkn
    have kb : blk V (w.heap.size + 1) (bdc b).toArray 29 := by rw [hV]; exact bBkn
    have hbV : Below w.heap.size w V := by rw [hV]; exact bBel
    clear hV
    have hszV := hbV.size
    have oa := blk_older ka
    obtain ⟨ca0, ca1, ca2, ca3, ca4, ca5, ca6, ca7, ca8, ca9, ca10, ca11, ca12, ca13, ca14, ca15, ca16, ca17, ca18, ca19⟩ := bd_cells ka
    have ob := blk_older kb
    obtain ⟨cb0, cb1, cb2, cb3, cb4, cb5, cb6, cb7, cb8, cb9, cb10, cb11, cb12, cb13, cb14, cb15, cb16, cb17, cb18, cb19⟩ := bd_cells kb
    go_wp2_with fail
    go_ret
    exact ⟨rfl, bBel⟩
  cases h14 : (a.idl == b.idl)
  focus
    simp only [Bool.false_and, Bool.true_and]
    clear cE hfa hfb
    have eT := fun W => (eq_tr23 a.px a.py a.pa b.px b.py b.pa W).trans (show _ = Result.ok (Value.bool true) W by rw [h2])
    clear h2
    have eV := fun W => (eq_vec23 a.vx a.vy b.vx b.vy W).trans (show _ = Result.ok (Value.bool true) W by rw [h3])
    clear h3
    have eF := fun W => (eq_vec23 a.fx a.fy b.fx b.fy W).trans (show _ = Result.ok (Value.bool true) W by rw [h5])
    clear h5
    go_enter Tryz.func36, Tryz.ntmps36
    go_upto_region 1 with fail
    refine wp_named ?_
    intro V hV
    have ka : blk V (w.heap.size) (bdc a).toArray 29 := by rw [hV]; exact bBkn
    have kb : blk V (w.heap.size + 1) (bdc b).toArray 29 := by rw [hV]; exact bBkn
    have hbV : Below w.heap.size w V := by rw [hV]; exact bBel
    clear hV
    have hszV := hbV.size
    have oa := blk_older ka
    obtain ⟨ca0, ca1, ca2, ca3, ca4, ca5, ca6, ca7, ca8, ca9, ca10, ca11, ca12, ca13, ca14, ca15, ca16, ca17, ca18, ca19⟩ := bd_cells ka
    have ob := blk_older kb
    obtain ⟨cb0, cb1, cb2, cb3, cb4, cb5, cb6, cb7, cb8, cb9, cb10, cb11, cb12, cb13, cb14, cb15, cb16, cb17, cb18, cb19⟩ := bd_cells kb
    go_wp2_with fail
    go_ret
    exact ⟨rfl, bBel⟩
  simp only [Bool.true_and]
  have eT := fun W => (eq_tr23 a.px a.py a.pa b.px b.py b.pa W).trans (show _ = Result.ok (Value.bool true) W by rw [h2])
  clear h2
  have eV := fun W => (eq_vec23 a.vx a.vy b.vx b.vy W).trans (show _ = Result.ok (Value.bool true) W by rw [h3])
  clear h3
  have eF := fun W => (eq_vec23 a.fx a.fy b.fx b.fy W).trans (show _ = Result.ok (Value.bool true) W by rw [h5])
  clear h5
  go_enter Tryz.func36, Tryz.ntmps36
  go_upto_region 1 with fail
  refine wp_named ?_
  intro V hV
  have ka : blk V (w.heap.size) (bdc a).toArray 29 := by rw [hV]; exact bBkn
  have kb : blk V (w.heap.size + 1) (bdc b).toArray 29 := by rw [hV]; exact bBkn
  have hbV : Below w.heap.size w V := by rw [hV]; exact bBel
  clear hV
  have hszV := hbV.size
  have oa := blk_older ka
  obtain ⟨ca0, ca1, ca2, ca3, ca4, ca5, ca6, ca7, ca8, ca9, ca10, ca11, ca12, ca13, ca14, ca15, ca16, ca17, ca18, ca19⟩ := bd_cells ka
  have ob := blk_older kb
  obtain ⟨cb0, cb1, cb2, cb3, cb4, cb5, cb6, cb7, cb8, cb9, cb10, cb11, cb12, cb13, cb14, cb15, cb16, cb17, cb18, cb19⟩ := bd_cells kb
  go_wp2_with (go_at_call 93; with_reducible_and_instances refine Calls.mono (gw_at (cE _ ⟨Fxs.to hfa bBel, Fxs.to hfb bBel⟩)) ?_; rintro e w1 ⟨rfl, q, rfl⟩)
  go_ret
  exact ⟨rfl, bBel⟩


end Go.Proofs.YtdmcdicphohlfaaGreat
