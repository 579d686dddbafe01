/- Plain mathematics of chapter 16: circles, the example. No program is imported. -/
import Derived.Test.YtiecpebckmihgaaGreatMnE
set_option linter.unusedVariables false
namespace Go.Proofs.YtiecpebckmihgaaGreat
open Fx

deriving instance DecidableEq for Mn
theorem rotx_zero (c s : Int) : rotx c s 0 0 = 0 := by unfold rotx; rw [sat_zero]; simp; decide +kernel
theorem roty_zero (c s : Int) : roty c s 0 0 = 0 := by unfold roty; rw [sat_zero]; simp; decide +kernel
theorem tr_zero (px py a : Int) : tr px py a (0, 0) = (sat px, sat py) := by
  unfold tr tpx tpy; dsimp only
  rw [rotx_zero, roty_zero]; unfold add; rw [sat_zero, Int.zero_add, Int.zero_add, sat_sat, sat_sat]
theorem valS_circle {r : Int} (h0 : 2048 ≤ r) (h1 : r ≤ 524288) : valS 1 r [(0, 0)] = 0 := by
  rw [valS_zero]
  refine ⟨by omega, by decide, fun p hp => ?_, ?_, by decide, by decide⟩
  · rw [List.mem_singleton] at hp; subst hp; unfold inrP; decide
  · unfold radbad; simp; omega
theorem sub_ss (a b : Int) : sub (sat a) (sat b) = sub a b := by unfold sub; rw [sat_sat, sat_sat]
theorem isct_pts {ax ay cx cy : Int} (h : isct ax ay ax ay cx cy cx cy = true) : sat ax = sat cx ∧ sat ay = sat cy := by
  unfold isct at h
  simp only [Bool.and_eq_true] at h
  have := Bx.ovl_iff.1 h.2
  unfold Bx.two at this
  dsimp only at this
  omega
theorem pick_same (o : Pp) : o.pick o = o := by unfold Pp.pick; split <;> rfl
theorem best_pts (ax ay cx cy : Int) : best ax ay ax ay cx cy cx cy = ⟨sat ax, sat ay, sat cx, sat cy⟩ := by
  unfold best cand1 cand2 cand3 cand4
  simp only [cpt_point, cpc_zero, pick_same]
theorem cps_pts (ax ay cx cy : Int) : vlen (segD (cps ax ay ax ay cx cy cx cy)).1 (segD (cps ax ay ax ay cx cy cx cy)).2 = vlen (sub cx ax) (sub cy ay) := by
  unfold cps
  split
  · rename_i h
    obtain ⟨h1, h2⟩ := isct_pts h
    unfold segD; dsimp only
    rw [sub_self, sub_self, ← sub_ss cx ax, ← sub_ss cy ay, h1, h2, sub_self, sub_self]
  · rw [best_pts]; unfold segD; dsimp only; rw [sub_ss, sub_ss]
theorem one_nz (nx ny x y gap : Int) : (1024 < gap → (oneM nx ny x y gap).nz = mz) ∧ (¬ 1024 < gap → (oneM nx ny x y gap).nz = ⟨nx, ny, [⟨x, y, gap, 0, 0, 0⟩]⟩) := by
  constructor
  · intro h; exact nz_nil (by unfold oneM; rw [if_pos h])
  · intro h
    have e : oneM nx ny x y gap = ⟨nx, ny, [⟨x, y, gap, 0, 0, 0⟩]⟩ := by unfold oneM; rw [if_neg h]
    rw [e]; exact nz_pos (by simp)
theorem col_circ {r s px py qx qy : Int} (a b : Int) (hr : 2048 ≤ r ∧ r ≤ 524288) (hs : 2048 ≤ s ∧ s ≤ 524288) :
    (1024 < sub (sub (vlen (sub qx px) (sub qy py)) r) s → col 1 r [(0, 0)] px py a 1 s [(0, 0)] qx qy b = mz) ∧ (¬ 1024 < sub (sub (vlen (sub qx px) (sub qy py)) r) s → ∃ nx ny x y, col 1 r [(0, 0)] px py a 1 s [(0, 0)] qx qy b = ⟨nx, ny, [⟨x, y, sub (sub (vlen (sub qx px) (sub qy py)) r) s, 0, 0, 0⟩]⟩) := by
  have e : col 1 r [(0, 0)] px py a 1 s [(0, 0)] qx qy b = (segM (cps (sat px) (sat py) (sat px) (sat py) (sat qx) (sat qy) (sat qx) (sat qy)) r s).nz := by
    unfold col; rw [if_pos ⟨valS_circle hr.1 hr.2, valS_circle hs.1 hs.2⟩]
    unfold colC; rw [if_pos ⟨by decide, by decide⟩]
    have e1 : [((0 : Int), (0 : Int))].map (tr px py a) = [(sat px, sat py)] := by rw [List.map_cons, List.map_nil, tr_zero]
    have e2 : [((0 : Int), (0 : Int))].map (tr qx qy b) = [(sat qx, sat qy)] := by rw [List.map_cons, List.map_nil, tr_zero]
    rw [e1, e2]; rfl
  rw [e]
  have hg : segG (segD (cps (sat px) (sat py) (sat px) (sat py) (sat qx) (sat qy) (sat qx) (sat qy))) r s = sub (sub (vlen (sub qx px) (sub qy py)) r) s := by
    unfold segG; rw [cps_pts, sub_ss, sub_ss]
  unfold segM
  rw [hg]
  have h := one_nz (segN (segD (cps (sat px) (sat py) (sat px) (sat py) (sat qx) (sat qy) (sat qx) (sat qy)))).1 (segN (segD (cps (sat px) (sat py) (sat px) (sat py) (sat qx) (sat qy) (sat qx) (sat qy)))).2
  exact ⟨fun c => (h _ _ _).1 c, fun c => ⟨_, _, _, _, (h _ _ _).2 c⟩⟩
theorem ex16_a : col 1 65536 [(0, 0)] 0 0 0 1 65536 [(0, 0)] 65536 0 0 = ⟨65536, 0, [⟨32768, 0, -65536, 0, 0, 0⟩]⟩ := by
  unfold col; rw [if_pos ⟨valS_circle (by decide) (by decide), valS_circle (by decide) (by decide)⟩]
  unfold colC; rw [if_pos ⟨by decide, by decide⟩]
  have e1 : [((0 : Int), (0 : Int))].map (tr 0 0 0) = [(0, 0)] := by rw [List.map_cons, List.map_nil, tr_zero, sat_zero]
  have e2 : [((0 : Int), (0 : Int))].map (tr 65536 0 0) = [(65536, 0)] := by rw [List.map_cons, List.map_nil, tr_zero, sat_zero, sat_one]
  rw [e1, e2]
  have e3 : cps (hp' [((0 : Int), (0 : Int))] 0).1 (hp' [((0 : Int), (0 : Int))] 0).2 (hp' [((0 : Int), (0 : Int))] ([((0 : Int), (0 : Int))].length - 1)).1 (hp' [((0 : Int), (0 : Int))] ([((0 : Int), (0 : Int))].length - 1)).2 (hp' [((65536 : Int), (0 : Int))] 0).1 (hp' [((65536 : Int), (0 : Int))] 0).2 (hp' [((65536 : Int), (0 : Int))] ([((65536 : Int), (0 : Int))].length - 1)).1 (hp' [((65536 : Int), (0 : Int))] ([((65536 : Int), (0 : Int))].length - 1)).2 = ⟨0, 0, 65536, 0⟩ := by decide +kernel
  rw [e3]
  have e4 : segD ⟨0, 0, 65536, 0⟩ = (65536, 0) := by decide +kernel
  have hv : vlen 65536 0 = 65536 := vlen_65536 (by decide)
  unfold segM segN segG
  rw [e4]
  dsimp only
  rw [hv]
  decide +kernel
theorem ex16_b : col 1 65536 [(0, 0)] 0 0 0 1 65536 [(0, 0)] 196608 0 0 = mz := by
  have hv : vlen 196608 0 = 196608 := by
    unfold vlen; rw [sat_id (by decide) (by decide), sat_zero]
    exact isq_eq (by decide) (by decide) (by decide) (by decide) (by decide)
  refine (col_circ 0 0 ⟨by decide, by decide⟩ ⟨by decide, by decide⟩).1 ?_
  rw [show sub 196608 0 = 196608 from by decide +kernel, show sub 0 0 = 0 from by decide +kernel, hv]
  decide +kernel

end Go.Proofs.YtiecpebckmihgaaGreat
