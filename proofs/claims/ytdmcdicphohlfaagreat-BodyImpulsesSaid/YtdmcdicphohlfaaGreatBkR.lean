/- Chapter 23: the reference's Equal. -/
import Derived.Test.YtdmcdicphohlfaaGreatBkN
set_option linter.unusedVariables false
set_option linter.unusedSimpArgs false
namespace Go.Proofs.YtdmcdicphohlfaaGreat
open Go.RowKit Fx Go.Maps

set_option maxRecDepth 100000 in
set_option maxHeartbeats 64000000 in
theorem reqd_b (a b : Bdy) (w : World) (hoa : okL a) (hob : okL b) (Df : Bool) (hDf : Df = true ↔ a.fs.map fx0 = b.fs.map fx0) (ha : BdIn w a) (hb : BdIn w b) : Calls Tryz.prog 29 #[.agg (bdc a).toArray, .agg (bdc b).toArray] w fun e w' => e = .returned (.bool (eqSc a b && Df)) ∧ Below w.heap.size w w' := by
  obtain ⟨D, hDv0⟩ : ∃ D, (eqSc a b && Df) = D := ⟨_, rfl⟩
  rw [hDv0]
  have hDv := show Hid _ from hDv0
  clear hDv0
  have hD : Hid (Df = true ↔ a.fs.map fx0 = b.fs.map fx0) := hDf
  have hlp' : Hid (∀ f ∈ a.fs, f.ps.length ≤ 1000000) := hoa.2
  have hmp' : Hid (∀ f ∈ b.fs, f.ps.length ≤ 1000000) := hob.2
  have hla := hoa.1
  have hlb := hob.1
  clear hDf hoa hob
  have eT := neq_tr23 a.px a.py a.pa b.px b.py b.pa
  have eV := neq_vec23 a.vx a.vy b.vx b.vy
  have eF := neq_vec23 a.fx a.fy b.fx b.fy
  by_cases hlm : a.fs.length = b.fs.length
  rotate_left
  · obtain rfl : D = false := by
      rw [← hDv.out]
      cases hq : Df
      · simp
      · exact (hlm (map_len (hD.out.1 hq))).elim
    have hne : ((a.fs.length : Int) != (b.fs.length : Int)) = true := by rw [bne_iff_ne]; omega
    clear hlm eT eV eF
    go_enter Tryz.func29, Tryz.ntmps29
    go_upto_region 1 with fail
    refine wp_named ?_
    intro V hV
    have ka : blk V (w.heap.size) (bdc a).toArray 29 := by rw [hV]; exact bBkn
    have kb : blk V (w.heap.size + 1) (bdc b).toArray 29 := by rw [hV]; exact bBkn
    have hbV : Below w.heap.size w V := by rw [hV]; exact bBel
    clear hV
    have hszV := hbV.size
    have oa := blk_older ka
    obtain ⟨ca0, ca1, ca2, ca3, ca4, ca5, ca6, ca7, ca8, ca9, ca10, ca11, ca12, ca13, ca14, ca15, ca16, ca17, ca18, ca19⟩ := bd_cells ka
    have ob := blk_older kb
    obtain ⟨cb0, cb1, cb2, cb3, cb4, cb5, cb6, cb7, cb8, cb9, cb10, cb11, cb12, cb13, cb14, cb15, cb16, cb17, cb18, cb19⟩ := bd_cells kb
    go_wp2_with fail
    go_ret
    exact ⟨rfl, bBel⟩
  have hne : ((a.fs.length : Int) != (b.fs.length : Int)) = false := by rw [bne_eq_false_iff_eq]; omega
  have hlm1 : a.fs.length ≤ b.fs.length := by omega
  have hlm2 : b.fs.length ≤ a.fs.length := by omega
  clear hlm
  go_enter Tryz.func29, Tryz.ntmps29
  go_upto_region 1 with fail
  refine wp_named ?_
  intro V hV
  have ka : blk V (w.heap.size) (bdc a).toArray 29 := by rw [hV]; exact bBkn
  have kb : blk V (w.heap.size + 1) (bdc b).toArray 29 := by rw [hV]; exact bBkn
  have hbV : Below w.heap.size w V := by rw [hV]; exact bBel
  clear hV
  have hszV := hbV.size
  have oa := blk_older ka
  obtain ⟨ca0, ca1, ca2, ca3, ca4, ca5, ca6, ca7, ca8, ca9, ca10, ca11, ca12, ca13, ca14, ca15, ca16, ca17, ca18, ca19⟩ := bd_cells ka
  have ob := blk_older kb
  obtain ⟨cb0, cb1, cb2, cb3, cb4, cb5, cb6, cb7, cb8, cb9, cb10, cb11, cb12, cb13, cb14, cb15, cb16, cb17, cb18, cb19⟩ := bd_cells kb
  have hFa : Fxs V a.A a.fs := (ha.to hbV).1
  have hFb : Fxs V b.A b.fs := (hb.to hbV).1
  clear ha hb
  obtain ⟨A0, hA0⟩ : ∃ A0, a.A = A0 := ⟨_, rfl⟩
  rw [hA0] at hFa ca19
  have hA0H : Hid (a.A = A0) := hA0
  clear hA0
  obtain ⟨B0, hB0⟩ : ∃ B0, b.A = B0 := ⟨_, rfl⟩
  rw [hB0] at hFb cb19
  have hB0H : Hid (b.A = B0) := hB0
  clear hB0
  go_wp2_with fail
  go_loopw [5] (fun i wr => ∃ k : Nat, k ≤ a.fs.length ∧ i = .int .i64 (k : Int) ∧ Hid (∀ j (h : j < a.fs.length) (h2 : j < b.fs.length), j < k → fx0 a.fs[j] = fx0 b.fs[j]) ∧ Below V.heap.size V wr) (fun i _ => a.fs.length - (intOf i).toNat)
  case atStart => exact ⟨0, by omega, rfl, (fun j h h2 h3 => by omega), bBel⟩
  case round =>
    obtain ⟨k, hk, rfl, hall, hbR⟩ := hrel
    have hszR := hbR.size
    have hbwR : Below w.heap.size w wr := Below.trans hbV (hbR.mono hszV)
    have kaR := blk_below hbR ka
    have kbR := blk_below hbR kb
    clear ca0 ca1 ca2 ca3 ca4 ca5 ca6 ca7 ca8 ca9 ca10 ca11 ca12 ca13 ca14 ca15 ca16 ca17 ca18 ca19 cb0 cb1 cb2 cb3 cb4 cb5 cb6 cb7 cb8 cb9 cb10 cb11 cb12 cb13 cb14 cb15 cb16 cb17 cb18 cb19 oa ob
    obtain ⟨ca0, ca1, ca2, ca3, ca4, ca5, ca6, ca7, ca8, ca9, ca10, ca11, ca12, ca13, ca14, ca15, ca16, ca17, ca18, ca19⟩ := bd_cells kaR
    obtain ⟨cb0, cb1, cb2, cb3, cb4, cb5, cb6, cb7, cb8, cb9, cb10, cb11, cb12, cb13, cb14, cb15, cb16, cb17, cb18, cb19⟩ := bd_cells kbR
    have oA := blk_older kaR
    have oB := blk_older kbR
    rw [hA0H.out] at ca19
    rw [hB0H.out] at cb19
    by_cases hlt : k < a.fs.length
    · have hltI : (k : Int) < (a.fs.length : Int) := by omega
      have hltm : k < b.fs.length := by omega
      have hltmI : (k : Int) < (b.fs.length : Int) := by omega
      have hk0 : (0 : Int) ≤ (k : Int) := by omega
      obtain ⟨b1, off1, rfl, hq1, hr1⟩ := fxs_at23 hFa hlt
      obtain ⟨b2, off2, rfl, hq2, hr2⟩ := fxs_at23 hFb hltm
      have og1 := (hr1 wr hbR).1
      have og2 := (hr2 wr hbR).1
      have hR1' := show Hid _ from hr1
      have hR2' := show Hid _ from hr2
      have hp1 := hlp'.out _ (List.getElem_mem hlt)
      have hp2 := hmp'.out _ (List.getElem_mem hltm)
      have hP1 := Pts.to hq1.2.1 hbR
      have hP2 := Pts.to hq2.2.1 hbR
      have hn2 : Hid (fx0 a.fs[k] = fx0 b.fs[k] → ∀ j (h : j < a.fs.length) (h2 : j < b.fs.length), j < k + 1 → fx0 a.fs[j] = fx0 b.fs[j]) := fun h2 j hj hj2 hjk => by
        rcases Nat.lt_or_eq_of_le (Nat.le_of_lt_succ hjk) with h3 | rfl
        · exact hall.out j hj hj2 h3
        · exact h2
      have hbad : Hid (¬ fx0 a.fs[k] = fx0 b.fs[k] → D = false) := fun h2 => by
        rw [← hDv.out]
        cases hq : Df
        · simp
        · have h9 := hD.out.1 hq
          have h10 : (a.fs.map fx0)[k]? = (b.fs.map fx0)[k]? := by rw [h9]
          rw [List.getElem?_map, List.getElem?_map, List.getElem?_eq_getElem hlt, List.getElem?_eq_getElem hltm] at h10
          exact (h2 (by simpa using h10)).elim
      clear hr1 hr2 hq1 hq2 hall eT eV eF
      generalize a.fs[k] = f at *
      generalize b.fs[k] = g at *
      have hR1 : ∀ w', (∃ q, w' = gw wr q) → w'.rangeAt b1 (off1 + k * 10) (fxc f) := fun w' h' => by
        obtain ⟨q, rfl⟩ := h'
        exact (hR1'.out _ (Below.trans hbR ((below_gw wr q).mono hszR))).2
      have hR2 : ∀ w', (∃ q, w' = gw wr q) → w'.rangeAt b2 (off2 + k * 10) (fxc g) := fun w' h' => by
        obtain ⟨q, rfl⟩ := h'
        exact (hR2'.out _ (Below.trans hbR ((below_gw wr q).mono hszR))).2
      clear hR1' hR2'
      have cE := fun (w' : World) (hx : Pts w' f.A f.ps ∧ Pts w' g.A g.ps) => refx_b f g w' hp1 hp2 hx.1 hx.2
      cases he : eqFx f g
      · obtain rfl := hbad.out (fun h => by rw [(eqFx_iff f g).2 h] at he; cases he)
        rw [he] at cE
        clear he hbad hn2
        go_upto_region 6 with fail
        refine wp_region_gw (by kernel_rfl) (by kernel_rfl) ?_
        repeat (first | (refine wpQuiet_load23 (by rfl) 35 _ rfl b1 (off1 + k * 10) rfl (fxc f) _ hR1 Tryz.underlying35 rfl (fx_sizeC f) ?_; simp only [Act.put, List.setIfInBounds_toArray, List.set_cons_zero, List.set_cons_succ]) | (refine wpQuiet_load23 (by rfl) 35 _ rfl b2 (off2 + k * 10) rfl (fxc g) _ hR2 Tryz.underlying35 rfl (fx_sizeC g) ?_; simp only [Act.put, List.setIfInBounds_toArray, List.set_cons_zero, List.set_cons_succ]) | go_big_quiet_step ((first | (go_at_call 83; with_reducible_and_instances exact gw_call (cE _ ⟨Pts.to hP1 bBel, Pts.to hP2 bBel⟩)))))
        refine wpQuiet_nil ?_
        intro w1 hw1
        obtain ⟨q, rfl⟩ := hw1
        go_wp2_with fail
        go_ret
        exact ⟨rfl, bBel⟩
      · have hn3 := show Hid _ from hn2.out ((eqFx_iff f g).1 he)
        rw [he] at cE
        clear he hbad hn2
        go_upto_region 6 with fail
        refine wp_region_gw (by kernel_rfl) (by kernel_rfl) ?_
        repeat (first | (refine wpQuiet_load23 (by rfl) 35 _ rfl b1 (off1 + k * 10) rfl (fxc f) _ hR1 Tryz.underlying35 rfl (fx_sizeC f) ?_; simp only [Act.put, List.setIfInBounds_toArray, List.set_cons_zero, List.set_cons_succ]) | (refine wpQuiet_load23 (by rfl) 35 _ rfl b2 (off2 + k * 10) rfl (fxc g) _ hR2 Tryz.underlying35 rfl (fx_sizeC g) ?_; simp only [Act.put, List.setIfInBounds_toArray, List.set_cons_zero, List.set_cons_succ]) | go_big_quiet_step ((first | (go_at_call 83; with_reducible_and_instances exact gw_call (cE _ ⟨Pts.to hP1 bBel, Pts.to hP2 bBel⟩)))))
        refine wpQuiet_nil ?_
        intro w1 hw1
        obtain ⟨q, rfl⟩ := hw1
        go_wp2_with fail
        exact ⟨⟨k + 1, by omega, by go_num, hn3, bBel⟩, by (try go_num); simp [intOf]; (try omega)⟩
    · obtain rfl : k = a.fs.length := by omega
      obtain rfl : Df = true := hD.out.2 (List.ext_getElem (by simp; omega) fun i h1 h2 => by
        simp at h1 h2 ⊢
        exact hall.out i h1 h2 h1)
      have hne2 : ¬ (a.fs.length : Int) < (a.fs.length : Int) := by omega
      clear hall hD
      cases h0 : (a.i == b.i)
      focus
        obtain rfl : D = false := by rw [← hDv.out]; unfold eqSc; simp [h0]
        have m0 : (a.i != b.i) = true := by rw [bne, h0]; rfl
        clear h0
        clear eT eV eF hDv
        go_wp2_with fail
        go_ret
        exact ⟨rfl, bBel⟩
      cases h1 : (a.k == b.k)
      focus
        obtain rfl : D = false := by rw [← hDv.out]; unfold eqSc; simp [h0, h1]
        have m0 : (a.i != b.i) = false := by rw [bne, h0]; rfl
        have m1 : (a.k != b.k) = true := by rw [bne, h1]; rfl
        clear h0
        clear h1
        clear eT eV eF hDv
        go_wp2_with fail
        go_ret
        exact ⟨rfl, bBel⟩
      cases h2 : (a.px == b.px && a.py == b.py && a.pa == b.pa)
      focus
        obtain rfl : D = false := by rw [← hDv.out]; unfold eqSc; simp [h0, h1, h2]
        have m0 : (a.i != b.i) = false := by rw [bne, h0]; rfl
        have m1 : (a.k != b.k) = false := by rw [bne, h1]; rfl
        have eT' := fun W => (eT W).trans (show _ = Result.ok (Value.bool true) W by rw [h2]; rfl)
        clear h0
        clear h1
        clear h2
        clear eT eV eF hDv
        go_wp2_with fail
        go_ret
        exact ⟨rfl, bBel⟩
      cases h3 : (a.vx == b.vx && a.vy == b.vy)
      focus
        obtain rfl : D = false := by rw [← hDv.out]; unfold eqSc; simp [h0, h1, h2, h3]
        have m0 : (a.i != b.i) = false := by rw [bne, h0]; rfl
        have m1 : (a.k != b.k) = false := by rw [bne, h1]; rfl
        have eT' := fun W => (eT W).trans (show _ = Result.ok (Value.bool false) W by rw [h2]; rfl)
        have eV' := fun W => (eV W).trans (show _ = Result.ok (Value.bool true) W by rw [h3]; rfl)
        clear h0
        clear h1
        clear h2
        clear h3
        clear eT eV eF hDv
        go_wp2_with fail
        go_ret
        exact ⟨rfl, bBel⟩
      cases h4 : (a.av == b.av)
      focus
        obtain rfl : D = false := by rw [← hDv.out]; unfold eqSc; simp [h0, h1, h2, h3, h4]
        have m0 : (a.i != b.i) = false := by rw [bne, h0]; rfl
        have m1 : (a.k != b.k) = false := by rw [bne, h1]; rfl
        have eT' := fun W => (eT W).trans (show _ = Result.ok (Value.bool false) W by rw [h2]; rfl)
        have eV' := fun W => (eV W).trans (show _ = Result.ok (Value.bool false) W by rw [h3]; rfl)
        have m4 : (a.av != b.av) = true := by rw [bne, h4]; rfl
        clear h0
        clear h1
        clear h2
        clear h3
        clear h4
        clear eT eV eF hDv
        go_wp2_with fail
        go_ret
        exact ⟨rfl, bBel⟩
      cases h5 : (a.fx == b.fx && a.fy == b.fy)
      focus
        obtain rfl : D = false := by rw [← hDv.out]; unfold eqSc; simp [h0, h1, h2, h3, h4, h5]
        have m0 : (a.i != b.i) = false := by rw [bne, h0]; rfl
        have m1 : (a.k != b.k) = false := by rw [bne, h1]; rfl
        have eT' := fun W => (eT W).trans (show _ = Result.ok (Value.bool false) W by rw [h2]; rfl)
        have eV' := fun W => (eV W).trans (show _ = Result.ok (Value.bool false) W by rw [h3]; rfl)
        have m4 : (a.av != b.av) = false := by rw [bne, h4]; rfl
        have eF' := fun W => (eF W).trans (show _ = Result.ok (Value.bool true) W by rw [h5]; rfl)
        clear h0
        clear h1
        clear h2
        clear h3
        clear h4
        clear h5
        clear eT eV eF hDv
        go_wp2_with fail
        go_ret
        exact ⟨rfl, bBel⟩
      cases h6 : (a.tq == b.tq)
      focus
        obtain rfl : D = false := by rw [← hDv.out]; unfold eqSc; simp [h0, h1, h2, h3, h4, h5, h6]
        have m0 : (a.i != b.i) = false := by rw [bne, h0]; rfl
        have m1 : (a.k != b.k) = false := by rw [bne, h1]; rfl
        have eT' := fun W => (eT W).trans (show _ = Result.ok (Value.bool false) W by rw [h2]; rfl)
        have eV' := fun W => (eV W).trans (show _ = Result.ok (Value.bool false) W by rw [h3]; rfl)
        have m4 : (a.av != b.av) = false := by rw [bne, h4]; rfl
        have eF' := fun W => (eF W).trans (show _ = Result.ok (Value.bool false) W by rw [h5]; rfl)
        have m6 : (a.tq != b.tq) = true := by rw [bne, h6]; rfl
        clear h0
        clear h1
        clear h2
        clear h3
        clear h4
        clear h5
        clear h6
        clear eT eV eF hDv
        go_wp2_with fail
        go_ret
        exact ⟨rfl, bBel⟩
      cases h7 : (a.ld == b.ld)
      focus
        obtain rfl : D = false := by rw [← hDv.out]; unfold eqSc; simp [h0, h1, h2, h3, h4, h5, h6, h7]
        have m0 : (a.i != b.i) = false := by rw [bne, h0]; rfl
        have m1 : (a.k != b.k) = false := by rw [bne, h1]; rfl
        have eT' := fun W => (eT W).trans (show _ = Result.ok (Value.bool false) W by rw [h2]; rfl)
        have eV' := fun W => (eV W).trans (show _ = Result.ok (Value.bool false) W by rw [h3]; rfl)
        have m4 : (a.av != b.av) = false := by rw [bne, h4]; rfl
        have eF' := fun W => (eF W).trans (show _ = Result.ok (Value.bool false) W by rw [h5]; rfl)
        have m6 : (a.tq != b.tq) = false := by rw [bne, h6]; rfl
        clear h0
        clear h1
        clear h2
        clear h3
        clear h4
        clear h5
        clear h6
        clear eT eV eF hDv
        go_wp2_with fail
        go_ret
        exact ⟨rfl, bBel⟩
      cases h8 : (a.ad == b.ad)
      focus
        obtain rfl : D = false := by rw [← hDv.out]; unfold eqSc; simp [h0, h1, h2, h3, h4, h5, h6, h7, h8]
        have m0 : (a.i != b.i) = false := by rw [bne, h0]; rfl
        have m1 : (a.k != b.k) = false := by rw [bne, h1]; rfl
        have eT' := fun W => (eT W).trans (show _ = Result.ok (Value.bool false) W by rw [h2]; rfl)
        have eV' := fun W => (eV W).trans (show _ = Result.ok (Value.bool false) W by rw [h3]; rfl)
        have m4 : (a.av != b.av) = false := by rw [bne, h4]; rfl
        have eF' := fun W => (eF W).trans (show _ = Result.ok (Value.bool false) W by rw [h5]; rfl)
        have m6 : (a.tq != b.tq) = false := by rw [bne, h6]; rfl
        clear h0
        clear h1
        clear h2
        clear h3
        clear h4
        clear h5
        clear h6
        clear eT eV eF hDv
        go_wp2_with fail
        go_ret
        exact ⟨rfl, bBel⟩
      cases h9 : (a.gs == b.gs)
      focus
        obtain rfl : D = false := by rw [← hDv.out]; unfold eqSc; simp [h0, h1, h2, h3, h4, h5, h6, h7, h8, h9]
        have m0 : (a.i != b.i) = false := by rw [bne, h0]; rfl
        have m1 : (a.k != b.k) = false := by rw [bne, h1]; rfl
        have eT' := fun W => (eT W).trans (show _ = Result.ok (Value.bool false) W by rw [h2]; rfl)
        have eV' := fun W => (eV W).trans (show _ = Result.ok (Value.bool false) W by rw [h3]; rfl)
        have m4 : (a.av != b.av) = false := by rw [bne, h4]; rfl
        have eF' := fun W => (eF W).trans (show _ = Result.ok (Value.bool false) W by rw [h5]; rfl)
        have m6 : (a.tq != b.tq) = false := by rw [bne, h6]; rfl
        clear h0
        clear h1
        clear h2
        clear h3
        clear h4
        clear h5
        clear h6
        clear eT eV eF hDv
        go_wp2_with fail
        go_ret
        exact ⟨rfl, bBel⟩
      cases h10 : (a.bul == b.bul)
      focus
        obtain rfl : D = false := by rw [← hDv.out]; unfold eqSc; simp [h0, h1, h2, h3, h4, h5, h6, h7, h8, h9, h10]
        have m0 : (a.i != b.i) = false := by rw [bne, h0]; rfl
        have m1 : (a.k != b.k) = false := by rw [bne, h1]; rfl
        have eT' := fun W => (eT W).trans (show _ = Result.ok (Value.bool false) W by rw [h2]; rfl)
        have eV' := fun W => (eV W).trans (show _ = Result.ok (Value.bool false) W by rw [h3]; rfl)
        have m4 : (a.av != b.av) = false := by rw [bne, h4]; rfl
        have eF' := fun W => (eF W).trans (show _ = Result.ok (Value.bool false) W by rw [h5]; rfl)
        have m6 : (a.tq != b.tq) = false := by rw [bne, h6]; rfl
        clear h0
        clear h1
        clear h2
        clear h3
        clear h4
        clear h5
        clear h6
        clear eT eV eF hDv
        go_wp2_with fail
        go_ret
        exact ⟨rfl, bBel⟩
      cases h11 : (a.fix == b.fix)
      focus
        obtain rfl : D = false := by rw [← hDv.out]; unfold eqSc; simp [h0, h1, h2, h3, h4, h5, h6, h7, h8, h9, h10, h11]
        have m0 : (a.i != b.i) = false := by rw [bne, h0]; rfl
        have m1 : (a.k != b.k) = false := by rw [bne, h1]; rfl
        have eT' := fun W => (eT W).trans (show _ = Result.ok (Value.bool false) W by rw [h2]; rfl)
        have eV' := fun W => (eV W).trans (show _ = Result.ok (Value.bool false) W by rw [h3]; rfl)
        have m4 : (a.av != b.av) = false := by rw [bne, h4]; rfl
        have eF' := fun W => (eF W).trans (show _ = Result.ok (Value.bool false) W by rw [h5]; rfl)
        have m6 : (a.tq != b.tq) = false := by rw [bne, h6]; rfl
        clear h0
        clear h1
        clear h2
        clear h3
        clear h4
        clear h5
        clear h6
        clear eT eV eF hDv
        go_wp2_with fail
        go_ret
        exact ⟨rfl, bBel⟩
      cases h12 : (a.nos == b.nos)
      focus
        obtain rfl : D = false := by rw [← hDv.out]; unfold eqSc; simp [h0, h1, h2, h3, h4, h5, h6, h7, h8, h9, h10, h11, h12]
        have m0 : (a.i != b.i) = false := by rw [bne, h0]; rfl
        have m1 : (a.k != b.k) = false := by rw [bne, h1]; rfl
        have eT' := fun W => (eT W).trans (show _ = Result.ok (Value.bool false) W by rw [h2]; rfl)
        have eV' := fun W => (eV W).trans (show _ = Result.ok (Value.bool false) W by rw [h3]; rfl)
        have m4 : (a.av != b.av) = false := by rw [bne, h4]; rfl
        have eF' := fun W => (eF W).trans (show _ = Result.ok (Value.bool false) W by rw [h5]; rfl)
        have m6 : (a.tq != b.tq) = false := by rw [bne, h6]; rfl
        clear h0
        clear h1
        clear h2
        clear h3
        clear h4
        clear h5
        clear h6
        clear eT eV eF hDv
        go_wp2_with fail
        go_ret
        exact ⟨rfl, bBel⟩
      cases h13 : (a.asl == b.asl)
      focus
        obtain rfl : D = false := by rw [← hDv.out]; unfold eqSc; simp [h0, h1, h2, h3, h4, h5, h6, h7, h8, h9, h10, h11, h12, h13]
        have m0 : (a.i != b.i) = false := by rw [bne, h0]; rfl
        have m1 : (a.k != b.k) = false := by rw [bne, h1]; rfl
        have eT' := fun W => (eT W).trans (show _ = Result.ok (Value.bool false) W by rw [h2]; rfl)
        have eV' := fun W => (eV W).trans (show _ = Result.ok (Value.bool false) W by rw [h3]; rfl)
        have m4 : (a.av != b.av) = false := by rw [bne, h4]; rfl
        have eF' := fun W => (eF W).trans (show _ = Result.ok (Value.bool false) W by rw [h5]; rfl)
        have m6 : (a.tq != b.tq) = false := by rw [bne, h6]; rfl
        clear h0
        clear h1
        clear h2
        clear h3
        clear h4
        clear h5
        clear h6
        clear eT eV eF hDv
        go_wp2_with fail
        go_ret
        exact ⟨rfl, bBel⟩
      cases h14 : (a.idl == b.idl)
      focus
        obtain rfl : D = false := by rw [← hDv.out]; unfold eqSc; simp [h0, h1, h2, h3, h4, h5, h6, h7, h8, h9, h10, h11, h12, h13, h14]
        have m0 : (a.i != b.i) = false := by rw [bne, h0]; rfl
        have m1 : (a.k != b.k) = false := by rw [bne, h1]; rfl
        have eT' := fun W => (eT W).trans (show _ = Result.ok (Value.bool false) W by rw [h2]; rfl)
        have eV' := fun W => (eV W).trans (show _ = Result.ok (Value.bool false) W by rw [h3]; rfl)
        have m4 : (a.av != b.av) = false := by rw [bne, h4]; rfl
        have eF' := fun W => (eF W).trans (show _ = Result.ok (Value.bool false) W by rw [h5]; rfl)
        have m6 : (a.tq != b.tq) = false := by rw [bne, h6]; rfl
        clear h0
        clear h1
        clear h2
        clear h3
        clear h4
        clear h5
        clear h6
        clear eT eV eF hDv
        go_wp2_with fail
        go_ret
        exact ⟨rfl, bBel⟩
      focus
        obtain rfl : D = true := by rw [← hDv.out]; unfold eqSc; simp [h0, h1, h2, h3, h4, h5, h6, h7, h8, h9, h10, h11, h12, h13, h14]
        have m0 : (a.i != b.i) = false := by rw [bne, h0]; rfl
        have m1 : (a.k != b.k) = false := by rw [bne, h1]; rfl
        have eT' := fun W => (eT W).trans (show _ = Result.ok (Value.bool false) W by rw [h2]; rfl)
        have eV' := fun W => (eV W).trans (show _ = Result.ok (Value.bool false) W by rw [h3]; rfl)
        have m4 : (a.av != b.av) = false := by rw [bne, h4]; rfl
        have eF' := fun W => (eF W).trans (show _ = Result.ok (Value.bool false) W by rw [h5]; rfl)
        have m6 : (a.tq != b.tq) = false := by rw [bne, h6]; rfl
        clear h0
        clear h1
        clear h2
        clear h3
        clear h4
        clear h5
        clear h6
        clear eT eV eF hDv
        go_wp2_with fail
        go_ret
        exact ⟨rfl, bBel⟩

theorem req23_b (a b : Bdy) (w : World) (hoa : okL a) (hob : okL b) (D : Bool) (hD : D = true ↔ bd0 a = bd0 b) (ha : BdIn w a) (hb : BdIn w b) : Calls Tryz.prog 29 #[.agg (bdc a).toArray, .agg (bdc b).toArray] w fun e w' => e = .returned (.bool D) ∧ Below w.heap.size w w' := by
  obtain ⟨Df, hDf⟩ : ∃ Df : Bool, Df = true ↔ a.fs.map fx0 = b.fs.map fx0 := by
    by_cases h : a.fs.map fx0 = b.fs.map fx0
    · exact ⟨true, by simp [h]⟩
    · exact ⟨false, by simp [h]⟩
  have e : (eqSc a b && Df) = D := by
    have h1 := eqB_iff a b Df hDf
    rw [← hD] at h1
    exact Bool.eq_iff_iff.2 h1
  rw [← e]
  exact reqd_b a b w hoa hob Df hDf ha hb


end Go.Proofs.YtdmcdicphohlfaaGreat
