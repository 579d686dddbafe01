/- Chapter 23: validation, the program's and the reference's. -/
import Derived.Test.YtdmcdicphohlfaaGreatBkC
import Derived.Test.YtdmcdicphohlfaaGreatBkD
set_option linter.unusedVariables false
set_option linter.unusedSimpArgs false
namespace Go.Proofs.YtdmcdicphohlfaaGreat
open Go.RowKit Fx Go.Maps

theorem wpList_load_g {P : Program} {ops : Array Oper} {rest : List Oper} {op : Oper} {a : Act} {w : World} {Q : Exit → Act → World → Prop} (hg : Region.wanted op (yielded ops a.tmps) = true) (ty : TypeId) (x : Operand) (ho : op.op = .load ty x)
    (b o : Nat) (hx : a.eval x = .pointer (some ⟨b, o, none⟩)) (cs : List Value) (d : TypeDesc) (hc : w.rangeAt b o cs)
    (hu : P.underlying ty = some d) (hd : d.isRow = true) (hi : (P.info? ty).map (·.size) = some cs.length)
    (h : wpList P ops Q rest (a.put op.dst (.agg cs.toArray)) w) : wpList P ops Q (op :: rest) a w :=
  wpList_step fun K hK => by
    rw [if_pos hg]
    exact wp_load_mid ty x ho b o hx cs d hc hu hd hi (hK _ _ h)
theorem neq_vec0 (x y : Int) (W : World) : (binOp .neq 24 (.agg #[.int .i64 x, .int .i64 y]) (.agg #[.int .i64 0, .int .i64 0])).run Tryz.prog W = .ok (.bool (x != 0 || y != 0)) W := by
  by_cases h1 : x = 0
  · by_cases h2 : y = 0
    · simp [go_sem, h1, h2]
    · simp [go_sem, h1, h2]
  · simp [go_sem, h1]

set_option maxRecDepth 100000 in
set_option maxHeartbeats 16000000 in
theorem pmov_b (b : Bdy) (w : World) : Calls Tryz.prog 57 #[.agg (bdc b).toArray] w fun e w' => e = .returned (.bool (movB b)) ∧ Below w.heap.size w w' := by
  have he := neq_vec0 b.vx b.vy
  have e : movB b = ((b.vx != 0 || b.vy != 0) || b.av != 0) := rfl
  rw [e]
  clear e
  cases hv : (b.vx != 0 || b.vy != 0)
  all_goals
    rw [hv] at he
    clear hv
    cases hz : (b.av != 0)
  all_goals
    go_enter Tryz.func57, Tryz.ntmps57
    go_upto_region 1 with fail
    refine wp_named ?_
    intro V hV
    have kb : blk V (w.heap.size) (bdc b).toArray 29 := by rw [hV]; exact bBkn
    have hbV : Below w.heap.size w V := by rw [hV]; exact bBel
    clear hV
    have hszV := hbV.size
    have ob := blk_older kb
    obtain ⟨cb0, cb1, cb2, cb3, cb4, cb5, cb6, cb7, cb8, cb9, cb10, cb11, cb12, cb13, cb14, cb15, cb16, cb17, cb18, cb19⟩ := bd_cells kb
    go_wp2_with fail
    go_ret
    exact ⟨rfl, bBel⟩

set_option maxRecDepth 100000 in
set_option maxHeartbeats 16000000 in
theorem ppul_b (b : Bdy) (w : World) : Calls Tryz.prog 122 #[.agg (bdc b).toArray] w fun e w' => e = .returned (.bool (pulB b)) ∧ Below w.heap.size w w' := by
  have he := neq_vec0 b.fx b.fy
  have e : pulB b = ((b.fx != 0 || b.fy != 0) || b.tq != 0) := rfl
  rw [e]
  clear e
  cases hv : (b.fx != 0 || b.fy != 0)
  all_goals
    rw [hv] at he
    clear hv
    cases hz : (b.tq != 0)
  all_goals
    go_enter Tryz.func122, Tryz.ntmps122
    go_upto_region 1 with fail
    refine wp_named ?_
    intro V hV
    have kb : blk V (w.heap.size) (bdc b).toArray 29 := by rw [hV]; exact bBkn
    have hbV : Below w.heap.size w V := by rw [hV]; exact bBel
    clear hV
    have hszV := hbV.size
    have ob := blk_older kb
    obtain ⟨cb0, cb1, cb2, cb3, cb4, cb5, cb6, cb7, cb8, cb9, cb10, cb11, cb12, cb13, cb14, cb15, cb16, cb17, cb18, cb19⟩ := bd_cells kb
    go_wp2_with fail
    go_ret
    exact ⟨rfl, bBel⟩

set_option maxRecDepth 100000 in
set_option maxHeartbeats 16000000 in
theorem psuit_b (b : Bdy) (w : World) : Calls Tryz.prog 56 #[.agg (bdc b).toArray] w fun e w' => e = .returned (.bool (suitB b)) ∧ Below w.heap.size w w' := by
  have c1 := fun w' => pmov_b b w'
  have c2 := fun w' => ppul_b b w'
  obtain ⟨D, hD⟩ : ∃ D, suitB b = D := ⟨_, rfl⟩
  rw [hD]
  unfold suitB at hD
  generalize movB b = M at *
  generalize pulB b = P at *
  obtain ⟨s1, hs1⟩ : ∃ s1, (b.k == 1) = s1 := ⟨_, rfl⟩
  obtain ⟨s3, hs3⟩ : ∃ s3, (b.k == 3) = s3 := ⟨_, rfl⟩
  rw [hs1, hs3] at hD
  obtain ⟨sa, hsa⟩ : ∃ sa, b.asl = sa := ⟨_, rfl⟩
  obtain ⟨sb, hsb⟩ : ∃ sb, b.bul = sb := ⟨_, rfl⟩
  rw [hsa, hsb] at hD
  cases s1
  case' false => cases s3
  case' false.false => cases sa
  case' false.false.false => cases sb
  case' true => cases M
  case' true.false => cases P
  case' true.false.false => cases s3
  case' true.false.false.false => cases sa
  case' true.false.false.false.false => cases sb
  all_goals
    simp at hD
    subst hD
  all_goals
    go_enter Tryz.func56, Tryz.ntmps56
    go_upto_region 1 with fail
    refine wp_named ?_
    intro V hV
    have kb : blk V (w.heap.size) (bdc b).toArray 29 := by rw [hV]; exact bBkn
    have hbV : Below w.heap.size w V := by rw [hV]; exact bBel
    clear hV
    have hszV := hbV.size
    have ob := blk_older kb
    obtain ⟨cb0, cb1, cb2, cb3, cb4, cb5, cb6, cb7, cb8, cb9, cb10, cb11, cb12, cb13, cb14, cb15, cb16, cb17, cb18, cb19⟩ := bd_cells kb
    rw [hsb] at cb14
    rw [hsa] at cb17
    have hQb : Hid (∀ w', Below V.heap.size V w' → w'.rangeAt (w.heap.size) 0 (bdc b)) := fun w' h' => rng_blk23 (blk_below h' kb)
    go_wp2_with (first | (refine wpList_load_g (by rfl) 29 _ rfl (w.heap.size) 0 rfl _ _ (hQb.out _ bBel) Tryz.underlying29 rfl (bd_sizeC b) ?_) | (go_at_call 57; with_reducible_and_instances refine Calls.mono (gw_at (c1 _)) ?_; rintro e w1 ⟨rfl, q, rfl⟩) | (go_at_call 122; with_reducible_and_instances refine Calls.mono (gw_at (c2 _)) ?_; rintro e w1 ⟨rfl, q, rfl⟩))
    go_ret
    exact ⟨rfl, bBel⟩

set_option maxRecDepth 100000 in
set_option maxHeartbeats 16000000 in
theorem pvf_b (f : Fxr) (w : World) (hl : f.ps.length ≤ 1000000) (hk : f.ps.length ≤ f.cap) (h : Pts w f.A f.ps) : Calls Tryz.prog 15 #[.agg (fxc f).toArray] w fun e w' => e = .returned (.int .i64 (fxV f)) ∧ Below w.heap.size w w' := by
  have cV := fun w' h => yval_b f.K f.R f.A f.cap f.ps hl w' h hk
  have c1 := fun w' => pmat_b f w'
  have c2 := fun w' => pfil_b f w'
  obtain ⟨D, hD⟩ : ∃ D, fxV f = D := ⟨_, rfl⟩
  rw [hD]
  unfold fxV at hD
  generalize valS f.K f.R f.ps = v at *
  by_cases hv : v = 0
  rotate_left
  · rw [if_pos hv] at hD
    subst hD
    have hz : (v != 0) = true := by rw [bne_iff_ne]; exact hv
    clear hv c1 c2
    go_enter Tryz.func15, Tryz.ntmps15
    go_upto_region 1 with fail
    refine wp_named ?_
    intro V hV
    have kf : blk V (w.heap.size) (fxc f).toArray 35 := by rw [hV]; exact bBkn
    have hbV : Below w.heap.size w V := by rw [hV]; exact bBel
    clear hV
    have hszV := hbV.size
    have of := blk_older kf
    obtain ⟨cf0, cf1, cf2, cf3, cf4, cf5, cf6, cf7, cf8, cf9⟩ := fx_cells kf
    go_wp2_with (first | (go_at_call 59; with_reducible_and_instances refine Calls.mono (gw_at (cV _ (Pts.to h bBel))) ?_; rintro e w1 ⟨rfl, q, rfl⟩))
    go_ret
    exact ⟨rfl, bBel⟩
  subst hv
  rw [if_neg (by decide)] at hD
  generalize matB f = M at *
  generalize filB f = L at *
  cases M
  case' true => cases L
  all_goals
    simp at hD
    subst hD
  all_goals
    go_enter Tryz.func15, Tryz.ntmps15
    go_upto_region 1 with fail
    refine wp_named ?_
    intro V hV
    have kf : blk V (w.heap.size) (fxc f).toArray 35 := by rw [hV]; exact bBkn
    have hbV : Below w.heap.size w V := by rw [hV]; exact bBel
    clear hV
    have hszV := hbV.size
    have of := blk_older kf
    obtain ⟨cf0, cf1, cf2, cf3, cf4, cf5, cf6, cf7, cf8, cf9⟩ := fx_cells kf
    have hQf : Hid (∀ w', Below V.heap.size V w' → w'.rangeAt (w.heap.size) 0 (fxc f)) := fun w' h' => rng_blk23 (blk_below h' kf)
    go_wp2_with (first | (refine wpList_load_g (by rfl) 35 _ rfl (w.heap.size) 0 rfl _ _ (hQf.out _ bBel) Tryz.underlying35 rfl (fx_sizeC f) ?_) | (go_at_call 59; with_reducible_and_instances refine Calls.mono (gw_at (cV _ (Pts.to h bBel))) ?_; rintro e w1 ⟨rfl, q, rfl⟩) | (go_at_call 60; with_reducible_and_instances refine Calls.mono (gw_at (c1 _)) ?_; rintro e w1 ⟨rfl, q, rfl⟩) | (go_at_call 61; with_reducible_and_instances refine Calls.mono (gw_at (c2 _)) ?_; rintro e w1 ⟨rfl, q, rfl⟩))
    go_ret
    exact ⟨rfl, bBel⟩

set_option maxRecDepth 100000 in
set_option maxHeartbeats 16000000 in
theorem pinv_b (f : Fxr) (w : World) (hl : f.ps.length ≤ 1000000) (hk : f.ps.length ≤ f.cap) (h : Pts w f.A f.ps) : Calls Tryz.prog 55 #[.agg (fxc f).toArray] w fun e w' => e = .returned (.bool (fxV f != 0)) ∧ Below w.heap.size w w' := by
  have cV := fun w' h => pvf_b f w' hl hk h
  generalize fxV f = v at *
  go_enter Tryz.func55, Tryz.ntmps55
  go_upto_region 1 with fail
  refine wp_named ?_
  intro V hV
  have kf : blk V (w.heap.size) (fxc f).toArray 35 := by rw [hV]; exact bBkn
  have hbV : Below w.heap.size w V := by rw [hV]; exact bBel
  clear hV
  have hszV := hbV.size
  have of := blk_older kf
  obtain ⟨cf0, cf1, cf2, cf3, cf4, cf5, cf6, cf7, cf8, cf9⟩ := fx_cells kf
  have hQf : Hid (∀ w', Below V.heap.size V w' → w'.rangeAt (w.heap.size) 0 (fxc f)) := fun w' h' => rng_blk23 (blk_below h' kf)
  go_wp2_with (first | (refine wpList_load_g (by rfl) 35 _ rfl (w.heap.size) 0 rfl _ _ (hQf.out _ bBel) Tryz.underlying35 rfl (fx_sizeC f) ?_) | (go_at_call 15; with_reducible_and_instances refine Calls.mono (gw_at (cV _ (Pts.to h bBel))) ?_; rintro e w1 ⟨rfl, q, rfl⟩))
  go_ret
  exact ⟨rfl, bBel⟩


end Go.Proofs.YtdmcdicphohlfaaGreat
