/- Chapter 22: the program's Proxies. -/
import Derived.Test.YtaahgblkmajceaaGreatBj3
import Derived.Test.YtaahgblkmajceaaGreatBqC
set_option linter.unusedVariables false
set_option linter.unusedSimpArgs false
namespace Go.Proofs.YtaahgblkmajceaaGreat
open Go.RowKit Fx Go.Maps

theorem info_pxy : (Tryz.prog.info? 44).map (fun i => (i.zero, i.size, i.bytes)) = some (some (.agg #[.int .i64 0, .int .i64 0, .int .i64 0, .int .i64 0, .int .i64 0, .int .i64 0]), 6, 48) := by kernel_rfl
theorem owns_bods {w : World} {B : Nat} {e : TypeId} {v : Value} {n : Nat} {l : List Bdy} (h : w.ownsRow B e 20 v n (bvv l)) (hq : ∀ f ∈ l, bdQ w (bdc f) f) : ∃ A cap, v = .slice A l.length cap ∧ n = l.length ∧ l.length ≤ cap ∧ cap ≤ maxLen ∧ Bods w A l := by
  obtain ⟨A, cap, h1, h2, h3, h4, h5, _⟩ := owns_els (c := bdc) bdc_len (by decide) h
  refine ⟨A, cap, h1, h2, h3, h4, ?_⟩
  rcases h5 with h5 | ⟨b, off, rfl, hc⟩
  · exact Or.inl h5
  · refine Or.inr ⟨b, off, rfl, fun i hi => ?_⟩
    obtain ⟨cs, hl, k, rfl⟩ := hc i hi
    exact ⟨_, hl, k, hq _ (List.getElem_mem hi)⟩
theorem bods_mem {w : World} {A : Option Addr} {l : List Bdy} (h : Bods w A l) : ∀ f ∈ l, bdQ w (bdc f) f := fun f hf => by
  obtain ⟨i, hi, rfl⟩ := List.mem_iff_getElem.1 hf
  obtain ⟨b, off, _, _, hc⟩ := bods_open h (by omega)
  exact (hc i hi).1

theorem owns_lt22 {w : World} {B k n g : Nat} {e : TypeId} {v : Value} {xs : List Value} (h : w.ownsRow B e k v n xs) (hg : v.ownBlock = some g) : g < w.heap.size := by
  obtain ⟨_, ⟨rfl, _⟩ | ⟨g', cap, cur, rfl, hB, hh, _⟩⟩ := h
  · simp [Value.ownBlock] at hg
  · simp [Value.ownBlock] at hg; subst hg; exact (Array.getElem?_eq_some_iff.1 hh).1

set_option maxRecDepth 100000 in
set_option maxHeartbeats 16000000 in
theorem prox_b (A : Option Addr) (cap : Nat) (S : List Bdy) (hl : S.length ≤ 1000) (hf : ∀ x ∈ S, okF x) (w : World) (h : Bods w A S) : Calls Tryz.prog 14 #[.slice A S.length cap] w fun e w' => (∃ v, e = .returned v ∧ w'.ownsRow w.heap.size 44 6 v (pxs S).length (pxv (pxs S))) ∧ Below w.heap.size w w' := by
  have hf' : Hid (∀ x ∈ S, okF x) := hf
  clear hf
  obtain ⟨i0, hi, hz0, hz1, hz2⟩ := info_parts info_pxy
  go_enter Tryz.func14, Tryz.ntmps14
  go_wp2_with fail
  go_loopw [3, 10] (fun c i wr => ∃ k : Nat, k ≤ S.length ∧ i = .int .i64 (k : Int) ∧ wr.ownsRow w.heap.size 44 6 c (pxs (S.take k)).length (pxv (pxs (S.take k))) ∧ Below w.heap.size w wr) (fun _ i _ => S.length - (intOf i).toNat)
  case atStart => exact ⟨0, by omega, rfl, World.ownsRow_nil _ _ _ _, Below.refl _ _⟩
  case round =>
    obtain ⟨k, hk, rfl, hown, hbR⟩ := hrel
    have hszR := hbR.size
    by_cases hlt : k < S.length
    · obtain ⟨b, off, rfl, hbl, hc0⟩ := bods_open h (by omega)
      obtain ⟨hq, hr0⟩ := hc0 k hlt
      obtain ⟨ob, hr⟩ := hr0 wr hbR
      have hst : Hid (pxs (S.take (k + 1)) = pxs (S.take k) ++ pxB S[k] S[k].fs.length) := pxs_take hlt
      have hok : Hid (okF S[k]) := hf'.out _ (List.getElem_mem hlt)
      have hpl : (pxs (S.take k)).length ≤ 8000 := by
        have := pxs_len (S.take k) (fun x hx => (hf'.out x (List.mem_of_mem_take hx)).1)
        rw [List.length_take] at this; omega
      clear hc0 hr0
      generalize pxs (S.take k) = P at *
      generalize S[k] = f at *
      obtain ⟨ia, ka, pxa, pya, paa, vxa, vya, ava, fxa, fya, tqa, lda, ada, gsa, bula, fixa, nosa, asla, idla, Aa, capa, fsa⟩ := f
      have hr' : Hid (wr.rangeAt b (off + k * 20) [.int .i64 ia, .int .i64 ka, .int .i64 pxa, .int .i64 pya, .int .i64 paa, .int .i64 vxa, .int .i64 vya, .int .i64 ava, .int .i64 fxa, .int .i64 fya, .int .i64 tqa, .int .i64 lda, .int .i64 ada, .int .i64 gsa, .bool bula, .bool fixa, .bool nosa, .bool asla, .int .i64 idla, .slice Aa fsa.length capa]) := hr
      have hfx : Hid (Fxs w Aa fsa) := hq.2.2.1
      have hok8 : fsa.length ≤ 8 := hok.out.1
      have hokp : Hid (∀ x ∈ fsa, x.ps.length ≤ 20) := hok.out.2
      clear hr hq hok
      go_upto_region 5 with (first
        | (refine wpList_load_mid rfl 37 _ rfl b (off + k * 20) rfl _ _ hr'.out Tryz.underlying37 rfl (by kernel_rfl) ?_)
        | (refine wpList_store_wide rfl 37 _ _ rfl wr.heap.size [.int .i64 ia, .int .i64 ka, .int .i64 pxa, .int .i64 pya, .int .i64 paa, .int .i64 vxa, .int .i64 vya, .int .i64 ava, .int .i64 fxa, .int .i64 fya, .int .i64 tqa, .int .i64 lda, .int .i64 ada, .int .i64 gsa, .bool bula, .bool fixa, .bool nosa, .bool asla, .int .i64 idla, .slice Aa fsa.length capa] rfl rfl _ _ bBkn (by kernel_rfl) (by kernel_rfl) (by kernel_rfl) ?_; intro V kV hbV koV hzV))
      have hbRV : Below wr.heap.size wr V := hbV _ _ (Nat.le_refl _) bBel
      have hlV : wr.heap.size < V.heap.size := blk_lt kV
      have hownV := owns_below hown hbRV
      have hne0 : Hid (u3.ownBlock ≠ some wr.heap.size) := fun e => by have := owns_lt22 hown e; omega
      clear hbV koV hr' ob hzV hown
      have oV : older wr.heap.size V = true := blk_older kV
      have q19 : V.cell? ⟨wr.heap.size, 19, none⟩ = some (.slice Aa fsa.length capa) := blk_cell kV 19
      have hbwV : Below w.heap.size w V := Below.trans hbR (hbRV.mono hszR)
      have hszV := hbwV.size
      obtain ⟨f0, hf0⟩ : ∃ f0 : Bdy, Hid (f0 = ⟨ia, ka, pxa, pya, paa, vxa, vya, ava, fxa, fya, tqa, lda, ada, gsa, bula, fixa, nosa, asla, idla, Aa, capa, fsa⟩) := ⟨_, rfl⟩
      rw [← hf0.out] at hst
      have hown0 : V.ownsRow w.heap.size 44 6 u3 (P ++ pxB f0 0).length (pxv (P ++ pxB f0 0)) := by simpa [pxB] using hownV
      clear hownV
      go_wp2_with fail
      generalize wr = W1 at *
      go_loopw [3, 17] (fun c j wx => ∃ m : Nat, m ≤ fsa.length ∧ j = .int .i64 (m : Int) ∧ wx.ownsRow w.heap.size 44 6 c (P ++ pxB f0 m).length (pxv (P ++ pxB f0 m)) ∧ Hid (c.ownBlock ≠ some W1.heap.size) ∧ blk wx W1.heap.size #[.int .i64 ia, .int .i64 ka, .int .i64 pxa, .int .i64 pya, .int .i64 paa, .int .i64 vxa, .int .i64 vya, .int .i64 ava, .int .i64 fxa, .int .i64 fya, .int .i64 tqa, .int .i64 lda, .int .i64 ada, .int .i64 gsa, .bool bula, .bool fixa, .bool nosa, .bool asla, .int .i64 idla, .slice Aa fsa.length capa] 37 ∧ Below w.heap.size w wx) (fun _ j _ => fsa.length - (intOf j).toNat)
      case atStart => exact ⟨0, by omega, rfl, hown0, hne0, kV, hbwV⟩
      case round =>
        obtain ⟨m, hm, rfl, hownX, hne, kX, hbwX⟩ := hrel
        have hszX := hbwX.size
        clear hown0 hne0 kV oV q19 hbwV hbRV
        by_cases hmt : m < fsa.length
        · obtain ⟨b2, off2, rfl, hq2, hr2⟩ := fxs_at hfx.out hmt
          obtain ⟨og, hr3⟩ := hr2 _ hbwX
          have h20 := hokp.out _ (List.getElem_mem hmt)
          have hZ0 : Hid (pbx (f0, m) = Bx.exp (bndS fsa[m].K fsa[m].R fsa[m].ps pxa pya paa) 1024) := by
            show _ = _
            rw [hf0.out]; exact pbx_at (b := ⟨ia, ka, pxa, pya, paa, vxa, vya, ava, fxa, fya, tqa, lda, ada, gsa, bula, fixa, nosa, asla, idla, (some ⟨b2, off2, none⟩), capa, fsa⟩) hmt
          have hi0 : Hid (f0.i = ia) := by show _ = _; rw [hf0.out]
          have hst2 : Hid (P ++ pxB f0 (m + 1) = (P ++ pxB f0 m) ++ [(f0, m)]) := by show _ = _; rw [pxB_succ, List.append_assoc]
          have hpm : (P ++ pxB f0 m).length ≤ 8100 := by rw [List.length_append, pxB_len]; omega
          clear hr2
          generalize P ++ pxB f0 m = PP at *
          generalize fsa[m] = g at *
          have cB0 := fun w' hw' => pbox_b g pxa pya paa (by omega) hq2.2.2.2.1 w' hw' (pbx (f0, m)) hZ0.out.symm
          obtain ⟨Kg, Rg, Ag, capg, psg, fDg, fFg, fEg, seng, c1g, m1g, g1g⟩ := g
          have hptsX : Pts wr Ag psg := Pts.to hq2.2.1 hbwX
          have hr4 : Hid (wr.rangeAt b2 (off2 + m * 10) [.int .i64 Kg, .int .i64 Rg, .slice Ag psg.length capg, .int .i64 fDg, .int .i64 fFg, .int .i64 fEg, .bool seng, .int .i64 c1g, .int .i64 m1g, .int .i64 g1g]) := hr3
          have cB : ∀ w', Pts w' Ag psg → Calls Tryz.prog 35 #[.agg #[.int .i64 Kg, .int .i64 Rg, .slice Ag psg.length capg, .int .i64 fDg, .int .i64 fFg, .int .i64 fEg, .bool seng, .int .i64 c1g, .int .i64 m1g, .int .i64 g1g], .agg #[.int .i64 pxa, .int .i64 pya, .int .i64 paa]] w' _ := cB0
          have hpx : Hid (pxc (f0, m) = [.int .i64 ia, .int .i64 (m : Int), .int .i64 (pbx (f0, m)).x0, .int .i64 (pbx (f0, m)).y0, .int .i64 (pbx (f0, m)).x1, .int .i64 (pbx (f0, m)).y1]) := by show _ = _; unfold pxc; rw [hi0.out]
          clear hr3 hZ0 cB0 hq2 hi0
          generalize pbx (f0, m) = x at *
          obtain ⟨x0, y0, x1, y1⟩ := x
          dsimp only at cB hpx
          go_upto_region 8 with (first
            | (refine wpList_load_mid rfl 57 _ rfl b2 (off2 + m * 10) rfl _ _ hr4.out Tryz.underlying57 rfl (by kernel_rfl) ?_)
            | (refine wpList_store_wide rfl 57 _ _ rfl wr.heap.size [.int .i64 Kg, .int .i64 Rg, .slice Ag psg.length capg, .int .i64 fDg, .int .i64 fFg, .int .i64 fEg, .bool seng, .int .i64 c1g, .int .i64 m1g, .int .i64 g1g] rfl rfl _ _ bBkn (by kernel_rfl) (by kernel_rfl) (by kernel_rfl) ?_; intro Y kY hbY koY hzY))
          have hbXY : Below wr.heap.size wr Y := hbY _ _ (Nat.le_refl _) bBel
          have hW1 : W1.heap.size < wr.heap.size := blk_lt kX
          have kB := koY W1.heap.size _ _ (by omega) (by apply blk_alloc; exact kX)
          have hptsY := Pts.to hptsX hbXY
          have hownY := owns_below hownX hbXY
          have hbwY : Below w.heap.size w Y := Below.trans hbwX (hbXY.mono hbwX.size)
          have hszY := hbwY.size
          have hszXY := hbXY.size
          clear hbY koY hzY hr4 og kX hownX hptsX hbXY
          have oB : older W1.heap.size Y = true := blk_older kB
          have e0 : Y.cell? ⟨W1.heap.size, 0, none⟩ = some (.int .i64 ia) := blk_cell kB 0
          have e2 : Y.cell? ⟨W1.heap.size, 2, none⟩ = some (.int .i64 pxa) := blk_cell kB 2
          have e3 : Y.cell? ⟨W1.heap.size, 3, none⟩ = some (.int .i64 pya) := blk_cell kB 3
          have e4 : Y.cell? ⟨W1.heap.size, 4, none⟩ = some (.int .i64 paa) := blk_cell kB 4
          have e19 : Y.cell? ⟨W1.heap.size, 19, none⟩ = some (.slice (some ⟨b2, off2, none⟩) fsa.length capa) := blk_cell kB 19
          have okY := blk_older kY
          have ckY_0 : _ = some _ := blk_cell kY 0
          have ckY_1 : _ = some _ := blk_cell kY 1
          have ckY_2 : _ = some _ := blk_cell kY 2
          have ckY_3 : _ = some _ := blk_cell kY 3
          have ckY_4 : _ = some _ := blk_cell kY 4
          have ckY_5 : _ = some _ := blk_cell kY 5
          have ckY_6 : _ = some _ := blk_cell kY 6
          have ckY_7 : _ = some _ := blk_cell kY 7
          have ckY_8 : _ = some _ := blk_cell kY 8
          have ckY_9 : _ = some _ := blk_cell kY 9
          have fkY_0 := blk_free kY 0
          have fkY_1 := blk_free kY 1
          have fkY_2 := blk_free kY 2
          have fkY_3 := blk_free kY 3
          have fkY_4 := blk_free kY 4
          have fkY_5 := blk_free kY 5
          have fkY_6 := blk_free kY 6
          have fkY_7 := blk_free kY 7
          have fkY_8 := blk_free kY 8
          have fkY_9 := blk_free kY 9
          simp only [Act.put]
          refine wp_mix 10 [0, 0, 2, 0, 0, 0, 32, 112, 254, 510, 1023, 2047] [] [0, 1, 2, 3, 4, 5, 6, 7, 8, 9] (by kernel_rfl) (by kernel_rfl) ?_
          repeat (first | (refine mix_skip (by rfl) (by rfl) (by rfl) (by rfl) ?_) | (refine mix_early (by rfl) (by rfl) (by rfl) ?_; go_big_quiet_step (fail); with_reducible refine wpQuiet_nil ?_) | (refine mix_late (by rfl) (by rfl) (by rfl) ?_; go_big_quiet_step (fail); with_reducible refine wpQuiet_nil ?_) | (refine mix_call (by rfl) (by rfl) (by rfl) ?_; intro pM Qs hQs; go_wp2_with (go_at_call 35; with_reducible_and_instances refine Calls.mono (gw_at (cB _ (Pts.to hptsY bBel))) ?_; rintro e w1 ⟨rfl, q, rfl⟩); refine hQs _ _ bBel ?_))
          refine mix_make #[.int .i64 ia, .int .i64 (m : Int), .int .i64 x0, .int .i64 y0, .int .i64 x1, .int .i64 y1] 44 (some 1) (by rfl) (by rfl) (by rfl) (by rfl) (fun w => by simp [go_sem, mval]) ?_
          intro b5 wb hbb kb hS5
          obtain ⟨qb, rfl⟩ := gw_of_below hbb
          clear hbb hS5
          simp only [mval]
          refine mix_end ?_
          intro pE
          simp only [List.drop_succ_cons, List.drop_zero]
          go_wp2_with (at_builtin; refine wpList_app21 rfl _ _ 39 rfl w.heap.size 44 i0 (.agg #[.int .i64 0, .int .i64 0, .int .i64 0, .int .i64 0, .int .i64 0, .int .i64 0]) 6 48 (by kernel_rfl) hi hz0 hz1 hz2 rfl (by decide) _ _ _ rfl (owns_below hownY bBel) _ [.int .i64 ia, .int .i64 (m : Int), .int .i64 x0, .int .i64 y0, .int .i64 x1, .int .i64 y1] 44 rfl rfl (by apply blk_of; (repeat (first | with_reducible exact kb | with_reducible apply blk_drew | with_reducible apply blk_gw | with_reducible apply blk_alloc | with_reducible apply blk_set | ((with_reducible apply blk_other); focus omega))); (first | rfl | simp)) (by intro u hu; simp at hu; rcases hu with rfl | rfl | rfl | rfl | rfl | rfl <;> rfl) (by unfold maxLen; omega) (by omega) (by first | (simp; omega) | omega) ?_; intro v' w2 hown2 hb2 hg2 ho2)
          have hne2 : Hid (v'.ownBlock ≠ some W1.heap.size) := fun e => by
            rcases ho2 with e2 | e2
            · exact hne.out (e2.symm.trans e)
            · have e3 := e2.symm.trans e
              simp at e3; omega
          refine ⟨⟨m + 1, by omega, by go_num, ?_, hne2, blk_grown20 hg2 (blk_below bBel kB) (fun e => hne.out e), Below.trans bBel hb2⟩, by (try go_num); simp [intOf]; (try omega)⟩
          rw [hst2.out, pxv_snoc, List.length_append, hpx.out]; exact hown2
        · obtain rfl : m = fsa.length := by omega
          go_wp2_with fail
          refine ⟨⟨k + 1, by omega, by go_num, ?_, hbwX⟩, by (try go_num); simp [intOf]; (try omega)⟩
          rw [hst.out]
          have e : f0.fs.length = fsa.length := by rw [hf0.out]
          rw [e]; exact hownX
    · obtain rfl : k = S.length := by omega
      rw [List.take_length] at hown
      go_wp2_with fail
      go_ret
      exact ⟨⟨_, rfl, hown⟩, hbR⟩

end Go.Proofs.YtaahgblkmajceaaGreat
