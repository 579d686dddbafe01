/- Chapter 23: equality of fixtures and bodies. -/
import Derived.Test.YtdmcdicphohlfaaGreatBkD
set_option linter.unusedVariables false
set_option linter.unusedSimpArgs false
namespace Go.Proofs.YtdmcdicphohlfaaGreat
open Go.RowKit Fx Go.Maps

def eqFx (f g : Fxr) : Bool := eqS f.K f.R f.ps g.K g.R g.ps && (f.D == g.D) && (f.F == g.F) && (f.E == g.E) && (f.sen == g.sen) && (f.cat == g.cat) && (f.msk == g.msk) && (f.grp == g.grp)
def eqSc (a b : Bdy) : Bool := (a.i == b.i) && (a.k == b.k) && (a.px == b.px && a.py == b.py && a.pa == b.pa) && (a.vx == b.vx && a.vy == b.vy) && (a.av == b.av) && (a.fx == b.fx && a.fy == b.fy) && (a.tq == b.tq) && (a.ld == b.ld) && (a.ad == b.ad) && (a.gs == b.gs) && (a.bul == b.bul) && (a.fix == b.fix) && (a.nos == b.nos) && (a.asl == b.asl) && (a.idl == b.idl)
theorem eqFx_iff (f g : Fxr) : eqFx f g = true ↔ fx0 f = fx0 g := by
  obtain ⟨K, R, A, cap, ps, fD, fF, fE, sen, c1, m1, g1⟩ := f
  obtain ⟨K2, R2, A2, cap2, qs, fD2, fF2, fE2, sen2, c12, m12, g12⟩ := g
  unfold eqFx eqS fx0
  simp only [Bool.and_eq_true, beq_iff_eq, decide_eq_true_eq, Fxr.mk.injEq, true_and]
  constructor
  · rintro ⟨⟨⟨⟨⟨⟨⟨h1, h2⟩, h3⟩, h4⟩, h5⟩, h6⟩, h7⟩, h8⟩
    obtain ⟨⟨h0, h9⟩, h10⟩ := h1
    exact ⟨h0, h9, h10, h2, h3, h4, h5, h6, h7, h8⟩
  · rintro ⟨h0, h9, h10, h2, h3, h4, h5, h6, h7, h8⟩
    exact ⟨⟨⟨⟨⟨⟨⟨⟨⟨h0, h9⟩, h10⟩, h2⟩, h3⟩, h4⟩, h5⟩, h6⟩, h7⟩, h8⟩
theorem eqB_iff (a b : Bdy) (Df : Bool) (h : Df = true ↔ a.fs.map fx0 = b.fs.map fx0) : (eqSc a b && Df) = true ↔ bd0 a = bd0 b := by
  unfold eqSc bd0
  simp only [Bool.and_eq_true, beq_iff_eq, Bdy.mk.injEq, true_and, h]
  constructor
  · rintro ⟨⟨⟨⟨⟨⟨⟨⟨⟨⟨⟨⟨⟨⟨⟨h1, h2⟩, ⟨h3, h4⟩, h5⟩, h6, h7⟩, h8⟩, h9, h10⟩, h11⟩, h12⟩, h13⟩, h14⟩, h15⟩, h16⟩, h17⟩, h18⟩, h19⟩, h20⟩
    exact ⟨h1, h2, h3, h4, h5, h6, h7, h8, h9, h10, h11, h12, h13, h14, h15, h16, h17, h18, h19, h20⟩
  · rintro ⟨h1, h2, h3, h4, h5, h6, h7, h8, h9, h10, h11, h12, h13, h14, h15, h16, h17, h18, h19, h20⟩
    exact ⟨⟨⟨⟨⟨⟨⟨⟨⟨⟨⟨⟨⟨⟨⟨h1, h2⟩, ⟨h3, h4⟩, h5⟩, h6, h7⟩, h8⟩, h9, h10⟩, h11⟩, h12⟩, h13⟩, h14⟩, h15⟩, h16⟩, h17⟩, h18⟩, h19⟩, h20⟩

theorem eq_vec23 (x y u v : Int) (W : World) : (binOp .eql 24 (.agg #[.int .i64 x, .int .i64 y]) (.agg #[.int .i64 u, .int .i64 v])).run Tryz.prog W = .ok (.bool (x == u && y == v)) W := by
  by_cases h1 : x = u
  · by_cases h2 : y = v <;> simp [go_sem, h1, h2]
  · simp [go_sem, h1]
theorem neq_vec23 (x y u v : Int) (W : World) : (binOp .neq 24 (.agg #[.int .i64 x, .int .i64 y]) (.agg #[.int .i64 u, .int .i64 v])).run Tryz.prog W = .ok (.bool (!(x == u && y == v))) W := by
  by_cases h1 : x = u
  · by_cases h2 : y = v <;> simp [go_sem, h1, h2]
  · simp [go_sem, h1]
theorem eq_tr23 (x y z u v t : Int) (W : World) : (binOp .eql 26 (.agg #[.int .i64 x, .int .i64 y, .int .i64 z]) (.agg #[.int .i64 u, .int .i64 v, .int .i64 t])).run Tryz.prog W = .ok (.bool (x == u && y == v && z == t)) W := by
  by_cases h1 : x = u
  · by_cases h2 : y = v
    · by_cases h3 : z = t <;> simp [go_sem, h1, h2, h3]
    · simp [go_sem, h1, h2]
  · simp [go_sem, h1]
theorem neq_tr23 (x y z u v t : Int) (W : World) : (binOp .neq 26 (.agg #[.int .i64 x, .int .i64 y, .int .i64 z]) (.agg #[.int .i64 u, .int .i64 v, .int .i64 t])).run Tryz.prog W = .ok (.bool (!(x == u && y == v && z == t))) W := by
  by_cases h1 : x = u
  · by_cases h2 : y = v
    · by_cases h3 : z = t <;> simp [go_sem, h1, h2, h3]
    · simp [go_sem, h1, h2]
  · simp [go_sem, h1]

set_option maxRecDepth 100000 in
set_option maxHeartbeats 16000000 in
theorem pefx_b (f g : Fxr) (w : World) (hlf : f.ps.length ≤ 1000000) (hlg : g.ps.length ≤ 1000000) (hf : Pts w f.A f.ps) (hg : Pts w g.A g.ps) : Calls Tryz.prog 94 #[.agg (fxc f).toArray, .agg (fxc g).toArray] w fun e w' => e = .returned (.bool (eqFx f g)) ∧ Below w.heap.size w w' := by
  have cS := fun (w' : World) (hx : Pts w' f.A f.ps ∧ Pts w' g.A g.ps) => yeqs_b f.K f.R f.A f.cap f.ps g.K g.R g.A g.cap g.ps (by omega) (by omega) w' hx.1 hx.2
  cases h0 : eqS f.K f.R f.ps g.K g.R g.ps
  focus
    have e : (eqFx f g) = false := by unfold eqFx; simp [h0]
    rw [e]
    clear e
    have cS' := fun w' hx => boolIs (cS w' hx) h0
    clear h0
    go_enter Tryz.func94, Tryz.ntmps94
    go_upto_region 1 with fail
    refine wp_named ?_
    intro V hV
    have kf : blk V (w.heap.size) (fxc f).toArray 35 := by rw [hV]; exact bBkn
    have kg : blk V (w.heap.size + 1) (fxc g).toArray 35 := by rw [hV]; exact bBkn
    have hbV : Below w.heap.size w V := by rw [hV]; exact bBel
    clear hV
    have hszV := hbV.size
    have of := blk_older kf
    obtain ⟨cf0, cf1, cf2, cf3, cf4, cf5, cf6, cf7, cf8, cf9⟩ := fx_cells kf
    have og := blk_older kg
    obtain ⟨cg0, cg1, cg2, cg3, cg4, cg5, cg6, cg7, cg8, cg9⟩ := fx_cells kg
    go_wp2_with (first | (go_at_call 161; with_reducible_and_instances refine Calls.mono (gw_at (cS' _ ⟨Pts.to hf bBel, Pts.to hg bBel⟩)) ?_; rintro e w1 ⟨rfl, q, rfl⟩))
    go_ret
    exact ⟨rfl, bBel⟩
  cases h1 : (f.D == g.D)
  focus
    have e : (eqFx f g) = false := by unfold eqFx; simp [h0, h1]
    rw [e]
    clear e
    have cS' := fun w' hx => boolIs (cS w' hx) h0
    clear h0
    go_enter Tryz.func94, Tryz.ntmps94
    go_upto_region 1 with fail
    refine wp_named ?_
    intro V hV
    have kf : blk V (w.heap.size) (fxc f).toArray 35 := by rw [hV]; exact bBkn
    have kg : blk V (w.heap.size + 1) (fxc g).toArray 35 := by rw [hV]; exact bBkn
    have hbV : Below w.heap.size w V := by rw [hV]; exact bBel
    clear hV
    have hszV := hbV.size
    have of := blk_older kf
    obtain ⟨cf0, cf1, cf2, cf3, cf4, cf5, cf6, cf7, cf8, cf9⟩ := fx_cells kf
    have og := blk_older kg
    obtain ⟨cg0, cg1, cg2, cg3, cg4, cg5, cg6, cg7, cg8, cg9⟩ := fx_cells kg
    go_wp2_with (first | (go_at_call 161; with_reducible_and_instances refine Calls.mono (gw_at (cS' _ ⟨Pts.to hf bBel, Pts.to hg bBel⟩)) ?_; rintro e w1 ⟨rfl, q, rfl⟩))
    go_ret
    exact ⟨rfl, bBel⟩
  cases h2 : (f.F == g.F)
  focus
    have e : (eqFx f g) = false := by unfold eqFx; simp [h0, h1, h2]
    rw [e]
    clear e
    have cS' := fun w' hx => boolIs (cS w' hx) h0
    clear h0
    go_enter Tryz.func94, Tryz.ntmps94
    go_upto_region 1 with fail
    refine wp_named ?_
    intro V hV
    have kf : blk V (w.heap.size) (fxc f).toArray 35 := by rw [hV]; exact bBkn
    have kg : blk V (w.heap.size + 1) (fxc g).toArray 35 := by rw [hV]; exact bBkn
    have hbV : Below w.heap.size w V := by rw [hV]; exact bBel
    clear hV
    have hszV := hbV.size
    have of := blk_older kf
    obtain ⟨cf0, cf1, cf2, cf3, cf4, cf5, cf6, cf7, cf8, cf9⟩ := fx_cells kf
    have og := blk_older kg
    obtain ⟨cg0, cg1, cg2, cg3, cg4, cg5, cg6, cg7, cg8, cg9⟩ := fx_cells kg
    go_wp2_with (first | (go_at_call 161; with_reducible_and_instances refine Calls.mono (gw_at (cS' _ ⟨Pts.to hf bBel, Pts.to hg bBel⟩)) ?_; rintro e w1 ⟨rfl, q, rfl⟩))
    go_ret
    exact ⟨rfl, bBel⟩
  cases h3 : (f.E == g.E)
  focus
    have e : (eqFx f g) = false := by unfold eqFx; simp [h0, h1, h2, h3]
    rw [e]
    clear e
    have cS' := fun w' hx => boolIs (cS w' hx) h0
    clear h0
    go_enter Tryz.func94, Tryz.ntmps94
    go_upto_region 1 with fail
    refine wp_named ?_
    intro V hV
    have kf : blk V (w.heap.size) (fxc f).toArray 35 := by rw [hV]; exact bBkn
    have kg : blk V (w.heap.size + 1) (fxc g).toArray 35 := by rw [hV]; exact bBkn
    have hbV : Below w.heap.size w V := by rw [hV]; exact bBel
    clear hV
    have hszV := hbV.size
    have of := blk_older kf
    obtain ⟨cf0, cf1, cf2, cf3, cf4, cf5, cf6, cf7, cf8, cf9⟩ := fx_cells kf
    have og := blk_older kg
    obtain ⟨cg0, cg1, cg2, cg3, cg4, cg5, cg6, cg7, cg8, cg9⟩ := fx_cells kg
    go_wp2_with (first | (go_at_call 161; with_reducible_and_instances refine Calls.mono (gw_at (cS' _ ⟨Pts.to hf bBel, Pts.to hg bBel⟩)) ?_; rintro e w1 ⟨rfl, q, rfl⟩))
    go_ret
    exact ⟨rfl, bBel⟩
  cases h4 : (f.sen == g.sen)
  focus
    have e : (eqFx f g) = false := by unfold eqFx; simp [h0, h1, h2, h3, h4]
    rw [e]
    clear e
    have cS' := fun w' hx => boolIs (cS w' hx) h0
    clear h0
    go_enter Tryz.func94, Tryz.ntmps94
    go_upto_region 1 with fail
    refine wp_named ?_
    intro V hV
    have kf : blk V (w.heap.size) (fxc f).toArray 35 := by rw [hV]; exact bBkn
    have kg : blk V (w.heap.size + 1) (fxc g).toArray 35 := by rw [hV]; exact bBkn
    have hbV : Below w.heap.size w V := by rw [hV]; exact bBel
    clear hV
    have hszV := hbV.size
    have of := blk_older kf
    obtain ⟨cf0, cf1, cf2, cf3, cf4, cf5, cf6, cf7, cf8, cf9⟩ := fx_cells kf
    have og := blk_older kg
    obtain ⟨cg0, cg1, cg2, cg3, cg4, cg5, cg6, cg7, cg8, cg9⟩ := fx_cells kg
    go_wp2_with (first | (go_at_call 161; with_reducible_and_instances refine Calls.mono (gw_at (cS' _ ⟨Pts.to hf bBel, Pts.to hg bBel⟩)) ?_; rintro e w1 ⟨rfl, q, rfl⟩))
    go_ret
    exact ⟨rfl, bBel⟩
  cases h5 : (f.cat == g.cat)
  focus
    have e : (eqFx f g) = false := by unfold eqFx; simp [h0, h1, h2, h3, h4, h5]
    rw [e]
    clear e
    have cS' := fun w' hx => boolIs (cS w' hx) h0
    clear h0
    go_enter Tryz.func94, Tryz.ntmps94
    go_upto_region 1 with fail
    refine wp_named ?_
    intro V hV
    have kf : blk V (w.heap.size) (fxc f).toArray 35 := by rw [hV]; exact bBkn
    have kg : blk V (w.heap.size + 1) (fxc g).toArray 35 := by rw [hV]; exact bBkn
    have hbV : Below w.heap.size w V := by rw [hV]; exact bBel
    clear hV
    have hszV := hbV.size
    have of := blk_older kf
    obtain ⟨cf0, cf1, cf2, cf3, cf4, cf5, cf6, cf7, cf8, cf9⟩ := fx_cells kf
    have og := blk_older kg
    obtain ⟨cg0, cg1, cg2, cg3, cg4, cg5, cg6, cg7, cg8, cg9⟩ := fx_cells kg
    go_wp2_with (first | (go_at_call 161; with_reducible_and_instances refine Calls.mono (gw_at (cS' _ ⟨Pts.to hf bBel, Pts.to hg bBel⟩)) ?_; rintro e w1 ⟨rfl, q, rfl⟩))
    go_ret
    exact ⟨rfl, bBel⟩
  cases h6 : (f.msk == g.msk)
  focus
    have e : (eqFx f g) = false := by unfold eqFx; simp [h0, h1, h2, h3, h4, h5, h6]
    rw [e]
    clear e
    have cS' := fun w' hx => boolIs (cS w' hx) h0
    clear h0
    go_enter Tryz.func94, Tryz.ntmps94
    go_upto_region 1 with fail
    refine wp_named ?_
    intro V hV
    have kf : blk V (w.heap.size) (fxc f).toArray 35 := by rw [hV]; exact bBkn
    have kg : blk V (w.heap.size + 1) (fxc g).toArray 35 := by rw [hV]; exact bBkn
    have hbV : Below w.heap.size w V := by rw [hV]; exact bBel
    clear hV
    have hszV := hbV.size
    have of := blk_older kf
    obtain ⟨cf0, cf1, cf2, cf3, cf4, cf5, cf6, cf7, cf8, cf9⟩ := fx_cells kf
    have og := blk_older kg
    obtain ⟨cg0, cg1, cg2, cg3, cg4, cg5, cg6, cg7, cg8, cg9⟩ := fx_cells kg
    go_wp2_with (first | (go_at_call 161; with_reducible_and_instances refine Calls.mono (gw_at (cS' _ ⟨Pts.to hf bBel, Pts.to hg bBel⟩)) ?_; rintro e w1 ⟨rfl, q, rfl⟩))
    go_ret
    exact ⟨rfl, bBel⟩
  cases h7 : (f.grp == g.grp)
  focus
    have e : (eqFx f g) = false := by unfold eqFx; simp [h0, h1, h2, h3, h4, h5, h6, h7]
    rw [e]
    clear e
    have cS' := fun w' hx => boolIs (cS w' hx) h0
    clear h0
    go_enter Tryz.func94, Tryz.ntmps94
    go_upto_region 1 with fail
    refine wp_named ?_
    intro V hV
    have kf : blk V (w.heap.size) (fxc f).toArray 35 := by rw [hV]; exact bBkn
    have kg : blk V (w.heap.size + 1) (fxc g).toArray 35 := by rw [hV]; exact bBkn
    have hbV : Below w.heap.size w V := by rw [hV]; exact bBel
    clear hV
    have hszV := hbV.size
    have of := blk_older kf
    obtain ⟨cf0, cf1, cf2, cf3, cf4, cf5, cf6, cf7, cf8, cf9⟩ := fx_cells kf
    have og := blk_older kg
    obtain ⟨cg0, cg1, cg2, cg3, cg4, cg5, cg6, cg7, cg8, cg9⟩ := fx_cells kg
    go_wp2_with (first | (go_at_call 161; with_reducible_and_instances refine Calls.mono (gw_at (cS' _ ⟨Pts.to hf bBel, Pts.to hg bBel⟩)) ?_; rintro e w1 ⟨rfl, q, rfl⟩))
    go_ret
    exact ⟨rfl, bBel⟩
  focus
    have e : (eqFx f g) = true := by unfold eqFx; simp [h0, h1, h2, h3, h4, h5, h6, h7]
    rw [e]
    clear e
    have cS' := fun w' hx => boolIs (cS w' hx) h0
    clear h0
    go_enter Tryz.func94, Tryz.ntmps94
    go_upto_region 1 with fail
    refine wp_named ?_
    intro V hV
    have kf : blk V (w.heap.size) (fxc f).toArray 35 := by rw [hV]; exact bBkn
    have kg : blk V (w.heap.size + 1) (fxc g).toArray 35 := by rw [hV]; exact bBkn
    have hbV : Below w.heap.size w V := by rw [hV]; exact bBel
    clear hV
    have hszV := hbV.size
    have of := blk_older kf
    obtain ⟨cf0, cf1, cf2, cf3, cf4, cf5, cf6, cf7, cf8, cf9⟩ := fx_cells kf
    have og := blk_older kg
    obtain ⟨cg0, cg1, cg2, cg3, cg4, cg5, cg6, cg7, cg8, cg9⟩ := fx_cells kg
    go_wp2_with (first | (go_at_call 161; with_reducible_and_instances refine Calls.mono (gw_at (cS' _ ⟨Pts.to hf bBel, Pts.to hg bBel⟩)) ?_; rintro e w1 ⟨rfl, q, rfl⟩))
    go_ret
    exact ⟨rfl, bBel⟩

set_option maxRecDepth 100000 in
set_option maxHeartbeats 16000000 in
theorem refx_b (f g : Fxr) (w : World) (hlf : f.ps.length ≤ 1000000) (hlg : g.ps.length ≤ 1000000) (hf : Pts w f.A f.ps) (hg : Pts w g.A g.ps) : Calls Tryz.prog 83 #[.agg (fxc f).toArray, .agg (fxc g).toArray] w fun e w' => e = .returned (.bool (eqFx f g)) ∧ Below w.heap.size w w' := by
  have cS := fun (w' : World) (hx : Pts w' f.A f.ps ∧ Pts w' g.A g.ps) => reqs_b f.K f.R f.A f.cap f.ps g.K g.R g.A g.cap g.ps (by omega) (by omega) w' hx.1 hx.2
  cases h0 : eqS f.K f.R f.ps g.K g.R g.ps
  focus
    have e : (eqFx f g) = false := by unfold eqFx; simp [h0]
    rw [e]
    clear e
    have cS' := fun w' hx => boolIs (cS w' hx) h0
    clear h0
    go_enter Tryz.func83, Tryz.ntmps83
    go_upto_region 1 with fail
    refine wp_named ?_
    intro V hV
    have kf : blk V (w.heap.size) (fxc f).toArray 35 := by rw [hV]; exact bBkn
    have kg : blk V (w.heap.size + 1) (fxc g).toArray 35 := by rw [hV]; exact bBkn
    have hbV : Below w.heap.size w V := by rw [hV]; exact bBel
    clear hV
    have hszV := hbV.size
    have of := blk_older kf
    obtain ⟨cf0, cf1, cf2, cf3, cf4, cf5, cf6, cf7, cf8, cf9⟩ := fx_cells kf
    have og := blk_older kg
    obtain ⟨cg0, cg1, cg2, cg3, cg4, cg5, cg6, cg7, cg8, cg9⟩ := fx_cells kg
    go_wp2_with (first | (go_at_call 154; with_reducible_and_instances refine Calls.mono (gw_at (cS' _ ⟨Pts.to hf bBel, Pts.to hg bBel⟩)) ?_; rintro e w1 ⟨rfl, q, rfl⟩))
    go_ret
    exact ⟨rfl, bBel⟩
  cases h1 : (f.D == g.D)
  focus
    have e : (eqFx f g) = false := by unfold eqFx; simp [h0, h1]
    rw [e]
    clear e
    have cS' := fun w' hx => boolIs (cS w' hx) h0
    clear h0
    go_enter Tryz.func83, Tryz.ntmps83
    go_upto_region 1 with fail
    refine wp_named ?_
    intro V hV
    have kf : blk V (w.heap.size) (fxc f).toArray 35 := by rw [hV]; exact bBkn
    have kg : blk V (w.heap.size + 1) (fxc g).toArray 35 := by rw [hV]; exact bBkn
    have hbV : Below w.heap.size w V := by rw [hV]; exact bBel
    clear hV
    have hszV := hbV.size
    have of := blk_older kf
    obtain ⟨cf0, cf1, cf2, cf3, cf4, cf5, cf6, cf7, cf8, cf9⟩ := fx_cells kf
    have og := blk_older kg
    obtain ⟨cg0, cg1, cg2, cg3, cg4, cg5, cg6, cg7, cg8, cg9⟩ := fx_cells kg
    go_wp2_with (first | (go_at_call 154; with_reducible_and_instances refine Calls.mono (gw_at (cS' _ ⟨Pts.to hf bBel, Pts.to hg bBel⟩)) ?_; rintro e w1 ⟨rfl, q, rfl⟩))
    go_ret
    exact ⟨rfl, bBel⟩
  cases h2 : (f.F == g.F)
  focus
    have e : (eqFx f g) = false := by unfold eqFx; simp [h0, h1, h2]
    rw [e]
    clear e
    have cS' := fun w' hx => boolIs (cS w' hx) h0
    clear h0
    go_enter Tryz.func83, Tryz.ntmps83
    go_upto_region 1 with fail
    refine wp_named ?_
    intro V hV
    have kf : blk V (w.heap.size) (fxc f).toArray 35 := by rw [hV]; exact bBkn
    have kg : blk V (w.heap.size + 1) (fxc g).toArray 35 := by rw [hV]; exact bBkn
    have hbV : Below w.heap.size w V := by rw [hV]; exact bBel
    clear hV
    have hszV := hbV.size
    have of := blk_older kf
    obtain ⟨cf0, cf1, cf2, cf3, cf4, cf5, cf6, cf7, cf8, cf9⟩ := fx_cells kf
    have og := blk_older kg
    obtain ⟨cg0, cg1, cg2, cg3, cg4, cg5, cg6, cg7, cg8, cg9⟩ := fx_cells kg
    go_wp2_with (first | (go_at_call 154; with_reducible_and_instances refine Calls.mono (gw_at (cS' _ ⟨Pts.to hf bBel, Pts.to hg bBel⟩)) ?_; rintro e w1 ⟨rfl, q, rfl⟩))
    go_ret
    exact ⟨rfl, bBel⟩
  cases h3 : (f.E == g.E)
  focus
    have e : (eqFx f g) = false := by unfold eqFx; simp [h0, h1, h2, h3]
    rw [e]
    clear e
    have cS' := fun w' hx => boolIs (cS w' hx) h0
    clear h0
    go_enter Tryz.func83, Tryz.ntmps83
    go_upto_region 1 with fail
    refine wp_named ?_
    intro V hV
    have kf : blk V (w.heap.size) (fxc f).toArray 35 := by rw [hV]; exact bBkn
    have kg : blk V (w.heap.size + 1) (fxc g).toArray 35 := by rw [hV]; exact bBkn
    have hbV : Below w.heap.size w V := by rw [hV]; exact bBel
    clear hV
    have hszV := hbV.size
    have of := blk_older kf
    obtain ⟨cf0, cf1, cf2, cf3, cf4, cf5, cf6, cf7, cf8, cf9⟩ := fx_cells kf
    have og := blk_older kg
    obtain ⟨cg0, cg1, cg2, cg3, cg4, cg5, cg6, cg7, cg8, cg9⟩ := fx_cells kg
    go_wp2_with (first | (go_at_call 154; with_reducible_and_instances refine Calls.mono (gw_at (cS' _ ⟨Pts.to hf bBel, Pts.to hg bBel⟩)) ?_; rintro e w1 ⟨rfl, q, rfl⟩))
    go_ret
    exact ⟨rfl, bBel⟩
  cases h4 : (f.sen == g.sen)
  focus
    have e : (eqFx f g) = false := by unfold eqFx; simp [h0, h1, h2, h3, h4]
    rw [e]
    clear e
    have cS' := fun w' hx => boolIs (cS w' hx) h0
    clear h0
    go_enter Tryz.func83, Tryz.ntmps83
    go_upto_region 1 with fail
    refine wp_named ?_
    intro V hV
    have kf : blk V (w.heap.size) (fxc f).toArray 35 := by rw [hV]; exact bBkn
    have kg : blk V (w.heap.size + 1) (fxc g).toArray 35 := by rw [hV]; exact bBkn
    have hbV : Below w.heap.size w V := by rw [hV]; exact bBel
    clear hV
    have hszV := hbV.size
    have of := blk_older kf
    obtain ⟨cf0, cf1, cf2, cf3, cf4, cf5, cf6, cf7, cf8, cf9⟩ := fx_cells kf
    have og := blk_older kg
    obtain ⟨cg0, cg1, cg2, cg3, cg4, cg5, cg6, cg7, cg8, cg9⟩ := fx_cells kg
    go_wp2_with (first | (go_at_call 154; with_reducible_and_instances refine Calls.mono (gw_at (cS' _ ⟨Pts.to hf bBel, Pts.to hg bBel⟩)) ?_; rintro e w1 ⟨rfl, q, rfl⟩))
    go_ret
    exact ⟨rfl, bBel⟩
  cases h5 : (f.cat == g.cat)
  focus
    have e : (eqFx f g) = false := by unfold eqFx; simp [h0, h1, h2, h3, h4, h5]
    rw [e]
    clear e
    have cS' := fun w' hx => boolIs (cS w' hx) h0
    clear h0
    go_enter Tryz.func83, Tryz.ntmps83
    go_upto_region 1 with fail
    refine wp_named ?_
    intro V hV
    have kf : blk V (w.heap.size) (fxc f).toArray 35 := by rw [hV]; exact bBkn
    have kg : blk V (w.heap.size + 1) (fxc g).toArray 35 := by rw [hV]; exact bBkn
    have hbV : Below w.heap.size w V := by rw [hV]; exact bBel
    clear hV
    have hszV := hbV.size
    have of := blk_older kf
    obtain ⟨cf0, cf1, cf2, cf3, cf4, cf5, cf6, cf7, cf8, cf9⟩ := fx_cells kf
    have og := blk_older kg
    obtain ⟨cg0, cg1, cg2, cg3, cg4, cg5, cg6, cg7, cg8, cg9⟩ := fx_cells kg
    go_wp2_with (first | (go_at_call 154; with_reducible_and_instances refine Calls.mono (gw_at (cS' _ ⟨Pts.to hf bBel, Pts.to hg bBel⟩)) ?_; rintro e w1 ⟨rfl, q, rfl⟩))
    go_ret
    exact ⟨rfl, bBel⟩
  cases h6 : (f.msk == g.msk)
  focus
    have e : (eqFx f g) = false := by unfold eqFx; simp [h0, h1, h2, h3, h4, h5, h6]
    rw [e]
    clear e
    have cS' := fun w' hx => boolIs (cS w' hx) h0
    clear h0
    go_enter Tryz.func83, Tryz.ntmps83
    go_upto_region 1 with fail
    refine wp_named ?_
    intro V hV
    have kf : blk V (w.heap.size) (fxc f).toArray 35 := by rw [hV]; exact bBkn
    have kg : blk V (w.heap.size + 1) (fxc g).toArray 35 := by rw [hV]; exact bBkn
    have hbV : Below w.heap.size w V := by rw [hV]; exact bBel
    clear hV
    have hszV := hbV.size
    have of := blk_older kf
    obtain ⟨cf0, cf1, cf2, cf3, cf4, cf5, cf6, cf7, cf8, cf9⟩ := fx_cells kf
    have og := blk_older kg
    obtain ⟨cg0, cg1, cg2, cg3, cg4, cg5, cg6, cg7, cg8, cg9⟩ := fx_cells kg
    go_wp2_with (first | (go_at_call 154; with_reducible_and_instances refine Calls.mono (gw_at (cS' _ ⟨Pts.to hf bBel, Pts.to hg bBel⟩)) ?_; rintro e w1 ⟨rfl, q, rfl⟩))
    go_ret
    exact ⟨rfl, bBel⟩
  cases h7 : (f.grp == g.grp)
  focus
    have e : (eqFx f g) = false := by unfold eqFx; simp [h0, h1, h2, h3, h4, h5, h6, h7]
    rw [e]
    clear e
    have cS' := fun w' hx => boolIs (cS w' hx) h0
    clear h0
    go_enter Tryz.func83, Tryz.ntmps83
    go_upto_region 1 with fail
    refine wp_named ?_
    intro V hV
    have kf : blk V (w.heap.size) (fxc f).toArray 35 := by rw [hV]; exact bBkn
    have kg : blk V (w.heap.size + 1) (fxc g).toArray 35 := by rw [hV]; exact bBkn
    have hbV : Below w.heap.size w V := by rw [hV]; exact bBel
    clear hV
    have hszV := hbV.size
    have of := blk_older kf
    obtain ⟨cf0, cf1, cf2, cf3, cf4, cf5, cf6, cf7, cf8, cf9⟩ := fx_cells kf
    have og := blk_older kg
    obtain ⟨cg0, cg1, cg2, cg3, cg4, cg5, cg6, cg7, cg8, cg9⟩ := fx_cells kg
    go_wp2_with (first | (go_at_call 154; with_reducible_and_instances refine Calls.mono (gw_at (cS' _ ⟨Pts.to hf bBel, Pts.to hg bBel⟩)) ?_; rintro e w1 ⟨rfl, q, rfl⟩))
    go_ret
    exact ⟨rfl, bBel⟩
  focus
    have e : (eqFx f g) = true := by unfold eqFx; simp [h0, h1, h2, h3, h4, h5, h6, h7]
    rw [e]
    clear e
    have cS' := fun w' hx => boolIs (cS w' hx) h0
    clear h0
    go_enter Tryz.func83, Tryz.ntmps83
    go_upto_region 1 with fail
    refine wp_named ?_
    intro V hV
    have kf : blk V (w.heap.size) (fxc f).toArray 35 := by rw [hV]; exact bBkn
    have kg : blk V (w.heap.size + 1) (fxc g).toArray 35 := by rw [hV]; exact bBkn
    have hbV : Below w.heap.size w V := by rw [hV]; exact bBel
    clear hV
    have hszV := hbV.size
    have of := blk_older kf
    obtain ⟨cf0, cf1, cf2, cf3, cf4, cf5, cf6, cf7, cf8, cf9⟩ := fx_cells kf
    have og := blk_older kg
    obtain ⟨cg0, cg1, cg2, cg3, cg4, cg5, cg6, cg7, cg8, cg9⟩ := fx_cells kg
    go_wp2_with (first | (go_at_call 154; with_reducible_and_instances refine Calls.mono (gw_at (cS' _ ⟨Pts.to hf bBel, Pts.to hg bBel⟩)) ?_; rintro e w1 ⟨rfl, q, rfl⟩))
    go_ret
    exact ⟨rfl, bBel⟩


end Go.Proofs.YtdmcdicphohlfaaGreat
