/- Chapter 22: the program's mayCollide. -/
import Derived.Test.YtaahgblkmajceaaGreatBqF
set_option linter.unusedVariables false
set_option linter.unusedSimpArgs false
namespace Go.Proofs.YtaahgblkmajceaaGreat
open Go.RowKit Fx Go.Maps

set_option maxRecDepth 100000 in
set_option maxHeartbeats 32000000 in
theorem mayc_b (a b : Bdy) (p q : Nat) (hp : p < a.fs.length) (hq : q < b.fs.length) (h8a : a.fs.length ≤ 8) (h8b : b.fs.length ≤ 8) (AJ : Option Addr) (capJ : Nat) (js : List Jnt) (hj : js.length ≤ 1000000) (w : World) (ha : bdQ w (bdc a) a) (hb : bdQ w (bdc b) b) (hJ : Jnts w AJ js) (D : Bool) (hD : mayC js (a, p) (b, q) = D) : Calls Tryz.prog 30 #[.agg (bdc a).toArray, .agg (bdc b).toArray, .int .i64 (p : Int), .int .i64 (q : Int), .slice AJ js.length capJ] w fun e w' => e = .returned (.bool D) ∧ Below w.heap.size w w' := by
  have hD' : Hid (mayC js (a, p) (b, q) = D) := hD
  clear hD
  have hu : Hid (mayC js (a, p) (b, q) = ((a.i != b.i) && (a.k == 3 || b.k == 3) && shc a.fs[p].grp a.fs[p].cat a.fs[p].msk b.fs[q].grp b.fs[q].cat b.fs[q].msk && !cnj js a.i b.i)) := by
    show _ = _
    unfold mayC shX
    dsimp only
    rw [List.getElem?_eq_getElem hp, List.getElem?_eq_getElem hq]
  obtain ⟨b1, off1, hA1, -, hc1⟩ := fxs_at ha.2.2.1 hp
  obtain ⟨b2, off2, hA2, -, hc2⟩ := fxs_at hb.2.2.1 hq
  have hpl : (p : Int) < (a.fs.length : Int) := by omega
  have hql : (q : Int) < (b.fs.length : Int) := by omega
  clear ha hb
  obtain ⟨ia, ka, pxa, pya, paa, vxa, vya, ava, fxa, fya, tqa, lda, ada, gsa, bula, fixa, nosa, asla, idla, Aa, capa, fsa⟩ := a
  obtain ⟨ib, kb, pxb, pyb, pab, vxb, vyb, avb, fxb, fyb, tqb, ldb, adb, gsb, bulb, fixb, nosb, aslb, idlb, Ab, capb, fsb⟩ := b
  dsimp only at hA1 hA2 hc1 hc2 hpl hql hu hp hq h8a h8b
  subst hA1 hA2
  have hE : Hid (D = ((ia != ib) && (ka == 3 || kb == 3) && shc fsa[p].grp fsa[p].cat fsa[p].msk fsb[q].grp fsb[q].cat fsb[q].msk && !cnj js ia ib)) := by show _ = _; rw [← hD'.out]; exact hu.out
  clear hD' hu
  have cC := fun w' h => cnj_b AJ capJ js ia ib hj w' h
  have cS := fun w' => shc_b fsa[p] fsb[q] w'
  generalize fsa[p] = f at *
  generalize fsb[q] = g at *
  obtain ⟨Kf, Rf, Af, capf, psf, fDf, fFf, fEf, senf, c1f, m1f, g1f⟩ := f
  obtain ⟨Kg, Rg, Ag, capg, psg, fDg, fFg, fEg, seng, c1g, m1g, g1g⟩ := g
  dsimp only at hE
  have cS' : ∀ w', Calls Tryz.prog 17 #[.agg #[.int .i64 Kf, .int .i64 Rf, .slice Af psf.length capf, .int .i64 fDf, .int .i64 fFf, .int .i64 fEf, .bool senf, .int .i64 c1f, .int .i64 m1f, .int .i64 g1f], .agg #[.int .i64 Kg, .int .i64 Rg, .slice Ag psg.length capg, .int .i64 fDg, .int .i64 fFg, .int .i64 fEg, .bool seng, .int .i64 c1g, .int .i64 m1g, .int .i64 g1g]] w' fun e w'' => e = .returned (.bool (shc g1f c1f m1f g1g c1g m1g)) ∧ Below w'.heap.size w' w'' := cS
  clear cS
  generalize shc g1f c1f m1f g1g c1g m1g = s at *
  generalize hcn : cnj js ia ib = t at *
  clear hcn
  show Calls _ _ #[.agg #[.int .i64 ia, .int .i64 ka, .int .i64 pxa, .int .i64 pya, .int .i64 paa, .int .i64 vxa, .int .i64 vya, .int .i64 ava, .int .i64 fxa, .int .i64 fya, .int .i64 tqa, .int .i64 lda, .int .i64 ada, .int .i64 gsa, .bool bula, .bool fixa, .bool nosa, .bool asla, .int .i64 idla, .slice (some ⟨b1, off1, none⟩) fsa.length capa], .agg #[.int .i64 ib, .int .i64 kb, .int .i64 pxb, .int .i64 pyb, .int .i64 pab, .int .i64 vxb, .int .i64 vyb, .int .i64 avb, .int .i64 fxb, .int .i64 fyb, .int .i64 tqb, .int .i64 ldb, .int .i64 adb, .int .i64 gsb, .bool bulb, .bool fixb, .bool nosb, .bool aslb, .int .i64 idlb, .slice (some ⟨b2, off2, none⟩) fsb.length capb], _, _, _] _ _
  generalize fsa.length = na at *
  generalize fsb.length = nb at *
  go_enter Tryz.func30, Tryz.ntmps30
  go_upto_region 1 with fail
  refine wp_named ?_
  intro V hV
  have kA : blk V w.heap.size #[.int .i64 ia, .int .i64 ka, .int .i64 pxa, .int .i64 pya, .int .i64 paa, .int .i64 vxa, .int .i64 vya, .int .i64 ava, .int .i64 fxa, .int .i64 fya, .int .i64 tqa, .int .i64 lda, .int .i64 ada, .int .i64 gsa, .bool bula, .bool fixa, .bool nosa, .bool asla, .int .i64 idla, .slice (some ⟨b1, off1, none⟩) na capa] 37 := by rw [hV]; exact bBkn
  have kB : blk V (w.heap.size + 1) #[.int .i64 ib, .int .i64 kb, .int .i64 pxb, .int .i64 pyb, .int .i64 pab, .int .i64 vxb, .int .i64 vyb, .int .i64 avb, .int .i64 fxb, .int .i64 fyb, .int .i64 tqb, .int .i64 ldb, .int .i64 adb, .int .i64 gsb, .bool bulb, .bool fixb, .bool nosb, .bool aslb, .int .i64 idlb, .slice (some ⟨b2, off2, none⟩) nb capb] 37 := by rw [hV]; exact bBkn
  have hbV : Below w.heap.size w V := by rw [hV]; exact bBel
  clear hV
  have hszV := hbV.size
  have oA : older w.heap.size V = true := blk_older kA
  have oB : older (w.heap.size + 1) V = true := blk_older kB
  have a0 : V.cell? ⟨w.heap.size, 0, none⟩ = some (.int .i64 ia) := blk_cell kA 0
  have a1 : V.cell? ⟨w.heap.size, 1, none⟩ = some (.int .i64 ka) := blk_cell kA 1
  have a19 : V.cell? ⟨w.heap.size, 19, none⟩ = some (.slice (some ⟨b1, off1, none⟩) na capa) := blk_cell kA 19
  have b0 : V.cell? ⟨w.heap.size + 1, 0, none⟩ = some (.int .i64 ib) := blk_cell kB 0
  have b1_ : V.cell? ⟨w.heap.size + 1, 1, none⟩ = some (.int .i64 kb) := blk_cell kB 1
  have b19 : V.cell? ⟨w.heap.size + 1, 19, none⟩ = some (.slice (some ⟨b2, off2, none⟩) nb capb) := blk_cell kB 19
  obtain ⟨o1, hr1⟩ := hc1 V hbV
  obtain ⟨o2, hr2⟩ := hc2 V hbV
  have r0_0 : V.cell? ⟨b1, off1 + p * 10, none⟩ = some (.int .i64 Kf) := hr1 0 _ rfl
  have r0_1 : V.cell? ⟨b1, off1 + p * 10 + 1, none⟩ = some (.int .i64 Rf) := hr1 1 _ rfl
  have r0_2 : V.cell? ⟨b1, off1 + p * 10 + 2, none⟩ = some (.slice Af psf.length capf) := hr1 2 _ rfl
  have r0_3 : V.cell? ⟨b1, off1 + p * 10 + 3, none⟩ = some (.int .i64 fDf) := hr1 3 _ rfl
  have r0_4 : V.cell? ⟨b1, off1 + p * 10 + 4, none⟩ = some (.int .i64 fFf) := hr1 4 _ rfl
  have r0_5 : V.cell? ⟨b1, off1 + p * 10 + 5, none⟩ = some (.int .i64 fEf) := hr1 5 _ rfl
  have r0_6 : V.cell? ⟨b1, off1 + p * 10 + 6, none⟩ = some (.bool senf) := hr1 6 _ rfl
  have r0_7 : V.cell? ⟨b1, off1 + p * 10 + 7, none⟩ = some (.int .i64 c1f) := hr1 7 _ rfl
  have r0_8 : V.cell? ⟨b1, off1 + p * 10 + 8, none⟩ = some (.int .i64 m1f) := hr1 8 _ rfl
  have r0_9 : V.cell? ⟨b1, off1 + p * 10 + 9, none⟩ = some (.int .i64 g1f) := hr1 9 _ rfl
  have r1_0 : V.cell? ⟨b2, off2 + q * 10, none⟩ = some (.int .i64 Kg) := hr2 0 _ rfl
  have r1_1 : V.cell? ⟨b2, off2 + q * 10 + 1, none⟩ = some (.int .i64 Rg) := hr2 1 _ rfl
  have r1_2 : V.cell? ⟨b2, off2 + q * 10 + 2, none⟩ = some (.slice Ag psg.length capg) := hr2 2 _ rfl
  have r1_3 : V.cell? ⟨b2, off2 + q * 10 + 3, none⟩ = some (.int .i64 fDg) := hr2 3 _ rfl
  have r1_4 : V.cell? ⟨b2, off2 + q * 10 + 4, none⟩ = some (.int .i64 fFg) := hr2 4 _ rfl
  have r1_5 : V.cell? ⟨b2, off2 + q * 10 + 5, none⟩ = some (.int .i64 fEg) := hr2 5 _ rfl
  have r1_6 : V.cell? ⟨b2, off2 + q * 10 + 6, none⟩ = some (.bool seng) := hr2 6 _ rfl
  have r1_7 : V.cell? ⟨b2, off2 + q * 10 + 7, none⟩ = some (.int .i64 c1g) := hr2 7 _ rfl
  have r1_8 : V.cell? ⟨b2, off2 + q * 10 + 8, none⟩ = some (.int .i64 m1g) := hr2 8 _ rfl
  have r1_9 : V.cell? ⟨b2, off2 + q * 10 + 9, none⟩ = some (.int .i64 g1g) := hr2 9 _ rfl
  have hJV := Jnts.to hJ hbV
  clear hr1 hr2 hc1 hc2 kA kB hJ hp hq
  cases c1 : (ia != ib) with
  | false =>
    obtain rfl : D = false := by rw [hE.out]; simp [c1]
    clear hE
    refine wp_region_gw (by kernel_rfl) (by kernel_rfl) ?_
    repeat (go_big_quiet_step (fail))
    refine wpQuiet_nil ?_
    intro w1 hw1
    obtain ⟨q, rfl⟩ := hw1
    go_wp2_with fail
    go_ret
    exact ⟨rfl, bBel⟩
  | true =>
    cases c2 : (ka == 3) with
    | true =>
      cases s with
      | false =>
        obtain rfl : D = false := by rw [hE.out]; simp [c1, c2]
        clear hE
        refine wp_region_gw (by kernel_rfl) (by kernel_rfl) ?_
        repeat (go_big_quiet_step ((first | (go_at_call 17; with_reducible_and_instances exact gw_call (cS' _)))))
        refine wpQuiet_nil ?_
        intro w1 hw1
        obtain ⟨q, rfl⟩ := hw1
        go_wp2_with fail
        go_ret
        exact ⟨rfl, bBel⟩
      | true =>
        cases t with
        | false =>
          obtain rfl : D = true := by rw [hE.out]; simp [c1, c2]
          clear hE
          refine wp_region_gw (by kernel_rfl) (by kernel_rfl) ?_
          repeat (go_big_quiet_step ((first | (go_at_call 17; with_reducible_and_instances exact gw_call (cS' _)) | (go_at_call 16; with_reducible_and_instances exact gw_call (cC _ (Jnts.to hJV bBel))))))
          refine wpQuiet_nil ?_
          intro w1 hw1
          obtain ⟨q, rfl⟩ := hw1
          go_wp2_with fail
          go_ret
          exact ⟨rfl, bBel⟩
        | true =>
          obtain rfl : D = false := by rw [hE.out]; simp [c1, c2]
          clear hE
          refine wp_region_gw (by kernel_rfl) (by kernel_rfl) ?_
          repeat (go_big_quiet_step ((first | (go_at_call 17; with_reducible_and_instances exact gw_call (cS' _)) | (go_at_call 16; with_reducible_and_instances exact gw_call (cC _ (Jnts.to hJV bBel))))))
          refine wpQuiet_nil ?_
          intro w1 hw1
          obtain ⟨q, rfl⟩ := hw1
          go_wp2_with fail
          go_ret
          exact ⟨rfl, bBel⟩
    | false =>
      cases c3 : (kb == 3) with
      | true =>
        cases s with
        | false =>
          obtain rfl : D = false := by rw [hE.out]; simp [c1, c2, c3]
          clear hE
          refine wp_region_gw (by kernel_rfl) (by kernel_rfl) ?_
          repeat (go_big_quiet_step ((first | (go_at_call 17; with_reducible_and_instances exact gw_call (cS' _)))))
          refine wpQuiet_nil ?_
          intro w1 hw1
          obtain ⟨q, rfl⟩ := hw1
          go_wp2_with fail
          go_ret
          exact ⟨rfl, bBel⟩
        | true =>
          cases t with
          | false =>
            obtain rfl : D = true := by rw [hE.out]; simp [c1, c2, c3]
            clear hE
            refine wp_region_gw (by kernel_rfl) (by kernel_rfl) ?_
            repeat (go_big_quiet_step ((first | (go_at_call 17; with_reducible_and_instances exact gw_call (cS' _)) | (go_at_call 16; with_reducible_and_instances exact gw_call (cC _ (Jnts.to hJV bBel))))))
            refine wpQuiet_nil ?_
            intro w1 hw1
            obtain ⟨q, rfl⟩ := hw1
            go_wp2_with fail
            go_ret
            exact ⟨rfl, bBel⟩
          | true =>
            obtain rfl : D = false := by rw [hE.out]; simp [c1, c2, c3]
            clear hE
            refine wp_region_gw (by kernel_rfl) (by kernel_rfl) ?_
            repeat (go_big_quiet_step ((first | (go_at_call 17; with_reducible_and_instances exact gw_call (cS' _)) | (go_at_call 16; with_reducible_and_instances exact gw_call (cC _ (Jnts.to hJV bBel))))))
            refine wpQuiet_nil ?_
            intro w1 hw1
            obtain ⟨q, rfl⟩ := hw1
            go_wp2_with fail
            go_ret
            exact ⟨rfl, bBel⟩
      | false =>
        obtain rfl : D = false := by rw [hE.out]; simp [c1, c2, c3]
        clear hE
        refine wp_region_gw (by kernel_rfl) (by kernel_rfl) ?_
        repeat (go_big_quiet_step (fail))
        refine wpQuiet_nil ?_
        intro w1 hw1
        obtain ⟨q, rfl⟩ := hw1
        go_wp2_with fail
        go_ret
        exact ⟨rfl, bBel⟩

end Go.Proofs.YtaahgblkmajceaaGreat
