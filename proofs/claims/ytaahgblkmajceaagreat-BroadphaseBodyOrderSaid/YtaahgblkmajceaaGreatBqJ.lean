/- Chapter 22: the reference's Proxies. -/
import Derived.Test.YtaahgblkmajceaaGreatBqF
set_option linter.unusedVariables false
set_option linter.unusedSimpArgs false
namespace Go.Proofs.YtaahgblkmajceaaGreat
open Go.RowKit Fx Go.Maps

theorem wpQuiet_load22 {P : Program} {ops : Array Oper} {C : World → Prop} {Q : Act → Prop} {o : Oper} {rest : List Oper} {a : Act} (hg : Region.wanted o (yielded ops a.tmps) = true) (ty : TypeId) (x : Operand) (ho : o.op = .load ty x)
    (b off : Nat) (hx : a.eval x = .pointer (some ⟨b, off, none⟩)) (cs : List Value) (d : TypeDesc) (hc : ∀ w, C w → w.rangeAt b off cs)
    (hu : P.underlying ty = some d) (hd : d.isRow = true) (hi : (P.info? ty).map (·.size) = some cs.length) (h : wpQuiet P ops C Q rest (a.put o.dst (.agg cs.toArray))) : wpQuiet P ops C Q (o :: rest) a := by
  unfold wpQuiet
  rw [if_pos hg]
  exact quiet_load_mid ty x ho b off hx cs d hc hu hd hi h

theorem info_rpx : (Tryz.prog.info? 64).map (fun i => (i.zero, i.size, i.bytes)) = some (some (.agg #[.int .i64 0, .int .i64 0, .int .i64 0, .int .i64 0, .int .i64 0, .int .i64 0]), 6, 48) := by kernel_rfl
theorem body_size : (Tryz.prog.info? 37).map (·.size) = some 20 := by kernel_rfl

set_option maxRecDepth 100000 in
set_option maxHeartbeats 16000000 in
theorem rprox_b (A : Option Addr) (cap : Nat) (S : List Bdy) (hl : S.length ≤ 1000) (hf : ∀ x ∈ S, okF x) (w : World) (h : Bods w A S) : Calls Tryz.prog 19 #[.slice A S.length cap] w fun e w' => (∃ v, e = .returned v ∧ w'.ownsRow w.heap.size 64 6 v (pxs S).length (pxv (pxs S))) ∧ Below w.heap.size w w' := by
  have hf' : Hid (∀ x ∈ S, okF x) := hf
  clear hf
  obtain ⟨i0, hi, hz0, hz1, hz2⟩ := info_parts info_rpx
  go_enter Tryz.func19, Tryz.ntmps19
  go_wp2_with fail
  go_loopw [3, 4] (fun c i wr => ∃ k : Nat, k ≤ S.length ∧ i = .int .i64 (k : Int) ∧ wr.ownsRow w.heap.size 64 6 c (pxs (S.take k)).length (pxv (pxs (S.take k))) ∧ Below w.heap.size w wr) (fun _ i _ => S.length - (intOf i).toNat)
  case atStart => exact ⟨0, by omega, rfl, World.ownsRow_nil _ _ _ _, Below.refl _ _⟩
  case round =>
    obtain ⟨k, hk, rfl, hown, hbR⟩ := hrel
    have hszR := hbR.size
    by_cases hlt : k < S.length
    · have hltI : (k : Int) < (S.length : Int) := by omega
      obtain ⟨b, off, rfl, hbl, hc0⟩ := bods_open h (by omega)
      obtain ⟨hq, hr0⟩ := hc0 k hlt
      have hst : Hid (pxs (S.take (k + 1)) = pxs (S.take k) ++ pxB S[k] S[k].fs.length) := pxs_take hlt
      have hok : Hid (okF S[k]) := hf'.out _ (List.getElem_mem hlt)
      have hpl : (pxs (S.take k)).length ≤ 8000 := by
        have := pxs_len (S.take k) (fun x hx => (hf'.out x (List.mem_of_mem_take hx)).1)
        rw [List.length_take] at this; omega
      have hqH : Hid (bdQ w (bdc S[k]) S[k]) := hq
      have hrH := show Hid _ from hr0
      clear hc0 hr0 hq
      generalize pxs (S.take k) = P at *
      generalize S[k] = f at *
      have hok8 : f.fs.length ≤ 8 := hok.out.1
      have hokp : Hid (∀ x ∈ f.fs, x.ps.length ≤ 1000) := fun x hx => Nat.le_trans (hok.out.2 x hx) (by decide)
      have hown0 : wr.ownsRow w.heap.size 64 6 u3 (P ++ pxB f 0).length (pxv (P ++ pxB f 0)) := by simpa [pxB] using hown
      clear hown hok
      go_wp2_with fail
      generalize wr = W1 at *
      go_loopw [3, 5] (fun c j wx => ∃ m : Nat, m ≤ f.fs.length ∧ j = .int .i64 (m : Int) ∧ wx.ownsRow w.heap.size 64 6 c (P ++ pxB f m).length (pxv (P ++ pxB f m)) ∧ Below w.heap.size w wx) (fun _ j _ => f.fs.length - (intOf j).toNat)
      case atStart => exact ⟨0, by omega, rfl, hown0, hbR⟩
      case round =>
        obtain ⟨m, hm, rfl, hownX, hbwX⟩ := hrel
        have hszX := hbwX.size
        clear hown0
        obtain ⟨ob, hr⟩ := hrH.out wr hbwX
        have c0 : wr.cell? ⟨b, off + k * 20, none⟩ = some (.int .i64 f.i) := hr 0 _ rfl
        have c19 : wr.cell? ⟨b, off + k * 20 + 19, none⟩ = some (.slice f.A f.fs.length f.cap) := hr 19 _ rfl
        by_cases hmt : m < f.fs.length
        · have hmtI : (m : Int) < (f.fs.length : Int) := by omega
          have hLa : ∀ w', (∃ q, w' = gw wr q) → w'.rangeAt b (off + k * 20) (bdc f) := fun w' h' => by
            obtain ⟨q, rfl⟩ := h'
            exact (hrH.out _ (Below.trans hbwX ((below_gw wr q).mono hszX))).2
          have hst2 : Hid (P ++ pxB f (m + 1) = (P ++ pxB f m) ++ [(f, m)]) := by show _ = _; rw [pxB_succ, List.append_assoc]
          have hpm : (P ++ pxB f m).length ≤ 8100 := by rw [List.length_append, pxB_len]; omega
          have cB0 := fun w' hw' => rbox_b f m hmt hokp.out w' hw'
          rw [← pbx_at hmt] at cB0

          have hqw : ∀ w', Below w.heap.size w w' → bdQ w' (bdc f) f := fun w' h' => bdQ.to hqH.out h'
          have hpx : Hid (pxc (f, m) = [.int .i64 f.i, .int .i64 (m : Int), .int .i64 (pbx (f, m)).x0, .int .i64 (pbx (f, m)).y0, .int .i64 (pbx (f, m)).x1, .int .i64 (pbx (f, m)).y1]) := rfl
          clear hr
          generalize P ++ pxB f m = PP at *
          generalize pbx (f, m) = x at *
          obtain ⟨x0, y0, x1, y1⟩ := x
          dsimp only at cB0 hpx
          have hsz20 : (Tryz.prog.info? 37).map (·.size) = some (bdc f).length := by rw [bdc_len]; exact body_size
          generalize hfi : f.i = fi at *
          generalize f.A = fA at *
          generalize f.cap = fcap at *
          go_wp2_with fail
          refine wp_mix 15 [0, 0, 0, 6, 14, 30, 0, 0, 0, 384, 896, 0, 3968, 8190, 16382, 32767, 65535] [] [0, 1, 2, 3, 4, 5, 6, 7, 8, 9, 10, 11, 12, 13, 14] (by kernel_rfl) (by kernel_rfl) ?_
          repeat (first | (refine mix_skip (by rfl) (by rfl) (by rfl) (by rfl) ?_) | (refine mix_early (by rfl) (by rfl) (by rfl) ?_; go_big_quiet_step (fail); with_reducible refine wpQuiet_nil ?_) | (refine mix_late (by rfl) (by rfl) (by rfl) ?_; go_big_quiet_step (fail); with_reducible refine wpQuiet_nil ?_) | (refine mix_call (by rfl) (by rfl) (by rfl) ?_; intro pM Qs hQs; go_wp2_with fail; refine hQs _ _ bBel ?_))
          refine mix_early (by rfl) (by rfl) (by rfl) ?_
          refine wpQuiet_load22 (by rfl) 37 _ rfl b (off + k * 20) rfl (bdc f) _ hLa Tryz.underlying37 rfl hsz20 ?_
          refine wpQuiet_nil ?_
          simp only [Act.put, List.setIfInBounds_toArray, List.set_cons_zero, List.set_cons_succ]
          repeat (first | (refine mix_skip (by rfl) (by rfl) (by rfl) (by rfl) ?_) | (refine mix_early (by rfl) (by rfl) (by rfl) ?_; go_big_quiet_step (fail); with_reducible refine wpQuiet_nil ?_) | (refine mix_late (by rfl) (by rfl) (by rfl) ?_; go_big_quiet_step (fail); with_reducible refine wpQuiet_nil ?_) | (refine mix_call (by rfl) (by rfl) (by rfl) ?_; intro pM Qs hQs; go_wp2_with (go_at_call 33; with_reducible_and_instances refine Calls.mono (gw_at (cB0 _ (hqw _ bBel))) ?_; rintro e w1 ⟨rfl, q, rfl⟩); refine hQs _ _ bBel ?_))
          refine mix_make #[.int .i64 fi, .int .i64 (m : Int), .int .i64 x0, .int .i64 y0, .int .i64 x1, .int .i64 y1] 64 (some 1) (by rfl) (by rfl) (by rfl) (by rfl) (fun w => by simp [go_sem, mval]) ?_
          intro b5 wb hbb kb hS5
          obtain ⟨qb, rfl⟩ := gw_of_below hbb
          clear hbb hS5
          simp only [mval]
          refine mix_end ?_
          intro pE
          simp only [List.drop_succ_cons, List.drop_zero]
          go_wp2_with (at_builtin; refine wpList_app21 rfl _ _ 61 rfl w.heap.size 64 i0 (.agg #[.int .i64 0, .int .i64 0, .int .i64 0, .int .i64 0, .int .i64 0, .int .i64 0]) 6 48 (by kernel_rfl) hi hz0 hz1 hz2 rfl (by decide) _ _ _ rfl (owns_below hownX bBel) _ [.int .i64 fi, .int .i64 (m : Int), .int .i64 x0, .int .i64 y0, .int .i64 x1, .int .i64 y1] 64 rfl rfl (by apply blk_of; (repeat (first | with_reducible exact kb | with_reducible apply blk_drew | with_reducible apply blk_gw | with_reducible apply blk_alloc | with_reducible apply blk_set | ((with_reducible apply blk_other); focus omega))); (first | rfl | simp)) (by intro u hu; simp at hu; rcases hu with rfl | rfl | rfl | rfl | rfl | rfl <;> rfl) (by unfold maxLen; omega) (by omega) (by first | (simp; omega) | omega) ?_; intro v' w2 hown2 hb2 hg2 ho2)
          refine ⟨⟨m + 1, by omega, by go_num, ?_, Below.trans bBel hb2⟩, by (try go_num); simp [intOf]; (try omega)⟩
          rw [hst2.out, pxv_snoc, List.length_append, hpx.out]; exact hown2
        · obtain rfl : m = f.fs.length := by omega
          clear hr
          go_wp2_with fail
          refine ⟨⟨k + 1, by omega, by go_num, ?_, hbwX⟩, by (try go_num); simp [intOf]; (try omega)⟩
          rw [hst.out]; exact hownX
    · obtain rfl : k = S.length := by omega
      rw [List.take_length] at hown
      go_wp2_with fail
      go_ret
      exact ⟨⟨_, rfl, hown⟩, hbR⟩

end Go.Proofs.YtaahgblkmajceaaGreat
