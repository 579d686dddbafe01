/- Chapter 21: entries as the reference's; the reference's filter. -/
import Derived.Test.YtfhhkabdeajieaaSpR
import Derived.Deep.DeepCutAuto
set_option linter.unusedVariables false
set_option linter.unusedSimpArgs false
namespace Go.Proofs.Ytfhhkabdeajieaa
open Go.RowKit Fx

/-- v is a slice of these entries; SL its type. -/
structure Vw5 (SL : TypeId) (w : World) (v : Value) (xs : List En) : Prop where
  len : ∀ ty W, (Builtin.len_ #[SL] ty #[v]).run Try.prog W = .ok (.int .i64 (xs.length : Int)) W
  ix : ∀ k (hk : k < xs.length), ∃ g o : Nat, (∀ W, (Instr.indexAt SL v (.int .i64 (k : Int))).run Try.prog W = .ok (.pointer (some ⟨g, o, none⟩)) W) ∧ ∀ w', Below w.heap.size w w' → older g w' = true ∧ w'.cell? ⟨g, o, none⟩ = some (.int .i64 xs[k].1) ∧ w'.cell? ⟨g, o + 1, none⟩ = some (.int .i64 xs[k].2.x0) ∧ w'.cell? ⟨g, o + 2, none⟩ = some (.int .i64 xs[k].2.y0) ∧ w'.cell? ⟨g, o + 3, none⟩ = some (.int .i64 xs[k].2.x1) ∧ w'.cell? ⟨g, o + 4, none⟩ = some (.int .i64 xs[k].2.y1)
theorem Vw5.to {SL : TypeId} {w w' : World} {v : Value} {xs : List En} (h : Vw5 SL w v xs) (hb : Below w.heap.size w w') : Vw5 SL w' v xs :=
  ⟨h.len, fun k hk => by
    obtain ⟨g, o, h1, h2⟩ := h.ix k hk
    exact ⟨g, o, h1, fun w2 hb2 => h2 w2 (Below.trans hb (hb2.mono hb.size))⟩⟩
theorem vw5_own {SL E : TypeId} (hu : Try.prog.underlying SL = some (.slice E)) (hz : ∀ W, (sizeOf E).run Try.prog W = .ok 5 W) {w : World} {B : Nat} {v : Value} {xs : List En} (h : w.ownsRow B E 5 v xs.length (ev xs)) : Vw5 SL w v xs :=
  ⟨fun ty W => row_len hu h ty W, fun k hk => by
    obtain ⟨g, _, h2, h3⟩ := ents_ix hu hz h hk
    exact ⟨g, k * 5, h2, h3⟩⟩
theorem vw5_ents {SL E : TypeId} (hu : Try.prog.underlying SL = some (.slice E)) (hz : ∀ W, (sizeOf E).run Try.prog W = .ok 5 W) {w : World} {A : Option Addr} {cap : Nat} {xs : List En} (h : Ents w A xs) : Vw5 SL w (.slice A xs.length cap) xs :=
  ⟨fun ty W => by simp [Builtin.len_, run_underlying hu] <;> rfl, fun k hk => by
    obtain ⟨b, off, rfl, hbl, hc⟩ := ents_open h (by omega)
    exact ⟨b, off + k * 5, fun W => by simp [Instr.indexAt, run_underlying hu, asIntOf, hz, hk, addN21, go_sem], fun w' hb => hc k hk w' hb⟩⟩

set_option maxRecDepth 100000 in
set_option maxHeartbeats 4000000 in
theorem tref_b (v : Value) (l : List En) (hl : l.length ≤ 100000) (w : World) (h : Vw5 22 w v l) : Calls Try.prog 11 #[v] w fun e w' => (∃ v, e = .returned v ∧ w'.ownsRow w.heap.size 35 5 v l.length (ev l)) ∧ Below w.heap.size w w' := by
  obtain ⟨i0, hi, hz0, hz1, hz2⟩ := info_parts info_re
  have hlen := h.len
  go_enter Try.func11, Try.ntmps11
  go_wp2_with fail
  go_loopw [3, 4] (fun c i wr => ∃ k : Nat, k ≤ l.length ∧ i = .int .i64 (k : Int) ∧ wr.ownsRow w.heap.size 35 5 c k (ev (l.take k)) ∧ Below w.heap.size w wr) (fun _ i _ => l.length - (intOf i).toNat)
  case atStart => exact ⟨0, by omega, rfl, World.ownsRow_nil _ _ _ _, Below.refl _ _⟩
  case round =>
    obtain ⟨k, hk, rfl, hown, hb⟩ := hrel
    have hszR := hb.size
    by_cases hlt : k < l.length
    · obtain ⟨g, o, hix, hc⟩ := h.ix k hlt
      obtain ⟨og, d0, d1, d2, d3, d4⟩ := hc wr hb
      have hst : Hid (ev (l.take (k + 1)) = ev (l.take k) ++ ec l[k]) := by show _ = _; rw [← List.take_append_getElem hlt, ev_snoc]
      clear hc
      generalize l[k] = e at *
      obtain ⟨i, x0, x1, x2, x3⟩ := e
      dsimp only at d0 d1 d2 d3 d4
      go_wp2_with fail
      refine wp_mix 13 [0, 0, 0, 6, 14, 30, 0, 0, 192, 448, 960, 2046, 4094] [] [0, 1, 2, 3, 4, 5, 6, 7, 8, 9, 10, 11, 12] (by kernel_rfl) (by kernel_rfl) ?_
      repeat (first | (refine mix_skip (by rfl) (by rfl) (by rfl) (by rfl) ?_) | (refine mix_early (by rfl) (by rfl) (by rfl) ?_; go_big_quiet_step (fail); with_reducible refine wpQuiet_nil ?_) | (refine mix_late (by rfl) (by rfl) (by rfl) ?_; go_big_quiet_step (fail); with_reducible refine wpQuiet_nil ?_) | (refine mix_call (by rfl) (by rfl) (by rfl) ?_; intro pM Qs hQs; go_wp2_with fail; refine hQs _ _ bBel ?_))
      refine mix_make #[.int .i64 i, .int .i64 x0, .int .i64 x1, .int .i64 x2, .int .i64 x3] 35 (some 1) (by rfl) (by rfl) (by rfl) (by rfl) (fun w => by simp [go_sem, mval]) ?_
      intro b5 wb hbb kb5 hS5
      obtain ⟨qb5, rfl⟩ := gw_of_below hbb
      clear hbb hS5
      simp only [mval]
      refine mix_end ?_
      intro pE
      simp only [List.drop_succ_cons, List.drop_zero]
      go_wp2_with (at_builtin; refine wpList_app21 rfl _ _ 25 rfl w.heap.size 35 i0 (.agg #[.int .i64 0, .int .i64 0, .int .i64 0, .int .i64 0, .int .i64 0]) 5 40 (by kernel_rfl) hi hz0 hz1 hz2 rfl (by decide) _ _ _ rfl (owns_below hown bBel) _ [.int .i64 i, .int .i64 x0, .int .i64 x1, .int .i64 x2, .int .i64 x3] 35 rfl rfl (by show blk _ _ #[.int .i64 i, .int .i64 x0, .int .i64 x1, .int .i64 x2, .int .i64 x3] _; exact (by apply blk_of; (repeat (first | with_reducible exact kb5 | with_reducible apply blk_drew | with_reducible apply blk_gw | with_reducible apply blk_alloc | with_reducible apply blk_set | ((with_reducible apply blk_other); focus omega))); (first | rfl | simp))) (by intro u hu; simp at hu; rcases hu with rfl | rfl | rfl | rfl | rfl <;> rfl) (by unfold maxLen; omega) (by omega) (by first | (simp; omega) | omega) ?_; intro v' w2 hown2 hb2 hg2 ho2)
      exact ⟨⟨k + 1, by omega, by go_num, by rw [hst.out]; exact hown2, Below.trans bBel hb2⟩, by (try go_num); simp [intOf]; (try omega)⟩
    · obtain rfl : k = l.length := by omega
      rw [List.take_length] at hown
      have hownS := own_hid hown
      clear hown
      go_wp2_with fail
      go_ret
      exact ⟨⟨_, rfl, hownS.out⟩, hb⟩

theorem hasI_take {o : Bxs} {k : Nat} (h : k < o.length) (i : Int) : hasI (o.take (k + 1)) i = (decide (i = o[k].1) || hasI (o.take k) i) := by rw [← List.take_append_getElem h, hasI_snoc]

set_option maxRecDepth 100000 in
set_option maxHeartbeats 8000000 in
theorem rfilter_b (v : Value) (l : List En) (hl : l.length ≤ 100000) (w : World) (h : Vw5 25 w v l) : Calls Try.prog 32 #[v] w fun e w' => (∃ v, e = .returned v ∧ w'.ownsRow w.heap.size 35 5 v (cnt l).length (ev (cnt l))) ∧ Below w.heap.size w w' := by
  obtain ⟨i0, hi, hz0, hz1, hz2⟩ := info_parts info_re
  have hlen := h.len
  go_enter Try.func32, Try.ntmps32
  go_wp2_with fail
  go_loopw [3, 4] (fun c i wr => ∃ k : Nat, k ≤ l.length ∧ i = .int .i64 (k : Int) ∧ wr.ownsRow w.heap.size 35 5 c (cnt (l.take k)).length (ev (cnt (l.take k))) ∧ Below w.heap.size w wr) (fun _ i _ => l.length - (intOf i).toNat)
  case atStart => exact ⟨0, by omega, rfl, World.ownsRow_nil _ _ _ _, Below.refl _ _⟩
  case round =>
    obtain ⟨k, hk, rfl, hown, hb⟩ := hrel
    have hszR := hb.size
    by_cases hlt : k < l.length
    · obtain ⟨g, o, hix, hc⟩ := h.ix k hlt
      obtain ⟨og, d0, d1, d2, d3, d4⟩ := hc wr hb
      have hst : Hid (cnt (l.take (k + 1)) = stepC (cnt (l.take k)) l[k]) := cnt_take hlt
      have hcl := cnt_take_len l k
      have hvo := vw5_own u_re sz_re hown
      obtain ⟨O, hO⟩ : ∃ O, Hid (cnt (l.take k) = O) := ⟨_, rfl⟩
      rw [hO.out] at hown hst hcl hvo
      have hOlen := hvo.len
      generalize l[k] = e at *
      obtain ⟨i, x0, x1, x2, x3⟩ := e
      dsimp only at d0 d1 d2 d3 d4 hc
      obtain ⟨V, hV⟩ : ∃ V, val4 x0 x1 x2 x3 = V := ⟨_, rfl⟩
      have hV' : Hid (Bx.val ⟨x0, x1, x2, x3⟩ = V) := hV
      go_wp2_with (go_at_call 52; refine Calls.mono (gw_at (boolIs (rxval_b x0 x1 x2 x3 _) hV)) ?_; rintro e w1 ⟨rfl, q, rfl⟩)
      have hb1 : Below wr.heap.size wr (gw wr q) := below_gw wr q
      clear d0 d1 d2 d3 d4 og
      go_loopw [5, 6] (fun c j wx => ∃ (m : Nat) (K : Bool), m ≤ O.length ∧ j = .int .i64 (m : Int) ∧ c = .bool K ∧ Hid (K = (V && !hasI (O.take m) i)) ∧ Below wr.heap.size wr wx) (fun _ j _ => O.length - (intOf j).toNat)
      case atStart => exact ⟨0, V, by omega, rfl, rfl, (by show _ = _; simp [hasI]), hb1⟩
      case round =>
        obtain ⟨m, K, hm, rfl, rfl, hK, hbx⟩ := hrel
        have hszX := hbx.size
        have hbw := Below.trans hb (hbx.mono hszR)
        have hszw := hbw.size
        obtain ⟨og, d0, d1, d2, d3, d4⟩ := hc _ hbw
        by_cases hmt : m < O.length
        · obtain ⟨g2, o2, hix2, hc2⟩ := hvo.ix m hmt
          obtain ⟨og2, f0, f1, f2, f3, f4⟩ := hc2 _ hbx
          have hst2 : Hid (hasI (O.take (m + 1)) i = (decide (i = O[m].1) || hasI (O.take m) i)) := hasI_take hmt i
          clear hc2 f1 f2 f3 f4 d1 d2 d3 d4
          generalize O[m].1 = id at *
          cases K with
          | false =>
            have hK2 : Hid (false = (V && !hasI (O.take (m + 1)) i)) := by
              show _ = _
              rw [hst2.out]
              have := hK.out
              cases V <;> simp at this ⊢
              rw [this]; simp
            clear hK hst2
            go_wp2_with fail
            refine wp_region_gw (by kernel_rfl) (by kernel_rfl) ?_
            repeat (go_big_quiet_step ((first | (go_at_call 52; (first | (exact gw_call (boolIs (rxval_b _ _ _ _ _) (b := true) (by assumption))) | (exact gw_call (boolIs (rxval_b _ _ _ _ _) (b := false) (by assumption))) | (exact gw_call (rxval_b _ _ _ _ _)))))))
            refine wpQuiet_nil ?_
            intro w1 hw1
            obtain ⟨q, rfl⟩ := hw1
            go_wp2_with fail
            exact ⟨⟨m + 1, false, by omega, by go_num, rfl, hK2, bBel⟩, by (try go_num); simp [intOf]; (try omega)⟩
          | true =>
            have hKt := hK.out
            by_cases c : id = i
            · have hK2 : Hid (false = (V && !hasI (O.take (m + 1)) i)) := by show _ = _; rw [hst2.out, c]; simp
              have c1 : (id != i) = false := by rw [bne_eq_false_iff_eq]; exact c
              clear hK hst2 hKt
              go_wp2_with fail
              refine wp_region_gw (by kernel_rfl) (by kernel_rfl) ?_
              repeat (go_big_quiet_step ((first | (go_at_call 52; (first | (exact gw_call (boolIs (rxval_b _ _ _ _ _) (b := true) (by assumption))) | (exact gw_call (boolIs (rxval_b _ _ _ _ _) (b := false) (by assumption))) | (exact gw_call (rxval_b _ _ _ _ _)))))))
              refine wpQuiet_nil ?_
              intro w1 hw1
              obtain ⟨q, rfl⟩ := hw1
              go_wp2_with fail
              exact ⟨⟨m + 1, false, by omega, by go_num, rfl, hK2, bBel⟩, by (try go_num); simp [intOf]; (try omega)⟩
            · have hK2 : Hid (true = (V && !hasI (O.take (m + 1)) i)) := by
                show _ = _
                rw [hst2.out]
                have h9 : decide (i = id) = false := by simpa using fun e => c (Eq.symm e)
                rw [h9, Bool.false_or]; exact hKt
              have c1 : (id != i) = true := by rw [bne_iff_ne]; exact c
              clear hK hst2 hKt
              go_wp2_with fail
              refine wp_region_gw (by kernel_rfl) (by kernel_rfl) ?_
              repeat (go_big_quiet_step ((first | (go_at_call 52; (first | (exact gw_call (boolIs (rxval_b _ _ _ _ _) (b := true) (by assumption))) | (exact gw_call (boolIs (rxval_b _ _ _ _ _) (b := false) (by assumption))) | (exact gw_call (rxval_b _ _ _ _ _)))))))
              refine wpQuiet_nil ?_
              intro w1 hw1
              obtain ⟨q, rfl⟩ := hw1
              go_wp2_with fail
              exact ⟨⟨m + 1, true, by omega, by go_num, rfl, hK2, bBel⟩, by (try go_num); simp [intOf]; (try omega)⟩
        · obtain rfl : m = O.length := by omega
          have hK2 := hK.out
          rw [List.take_length] at hK2
          have hownX := owns_below hown hbx
          cases K with
          | false =>
            have hst2 : Hid (cnt (l.take (k + 1)) = O) := by
              show _ = _
              rw [hst.out]
              refine stepC_no ?_
              cases hVV : V with
              | false => exact .inl (hV'.out.trans hVV)
              | true =>
                rw [hVV] at hK2
                have h9 : hasI O i = true := by simpa using hK2.symm
                exact .inr (hasI_yes h9)
            clear hK hK2 hst
            go_wp2_with fail
            exact ⟨⟨k + 1, by omega, by go_num, by rw [hst2.out]; exact hownX, hbw⟩, by (try go_num); simp [intOf]; (try omega)⟩
          | true =>
            have hst2 : Hid (cnt (l.take (k + 1)) = O ++ [(i, ⟨x0, x1, x2, x3⟩)]) := by
              show _ = _
              rw [hst.out]
              have h9 : V = true ∧ hasI O i = false := by simpa using hK2.symm
              exact stepC_yes (hV'.out.trans h9.1) (hasI_no h9.2)
            clear hK hK2 hst
            go_wp2_with (at_builtin; refine wpList_app21 rfl _ _ 25 rfl w.heap.size 35 i0 (.agg #[.int .i64 0, .int .i64 0, .int .i64 0, .int .i64 0, .int .i64 0]) 5 40 (by kernel_rfl) hi hz0 hz1 hz2 rfl (by decide) _ _ _ rfl (owns_below hownX bBel) _ [.int .i64 i, .int .i64 x0, .int .i64 x1, .int .i64 x2, .int .i64 x3] 35 rfl rfl bBkn (by intro u hu; simp at hu; rcases hu with rfl | rfl | rfl | rfl | rfl <;> rfl) (by unfold maxLen; omega) (by omega) (by first | (simp; omega) | omega) ?_; intro v' w2 hown2 hb2 hg2 ho2)
            exact ⟨⟨k + 1, by omega, by go_num, by rw [hst2.out, ev_snoc, List.length_append]; exact hown2, Below.trans (Below.alloc hbw hszw _) hb2⟩, by (try go_num); simp [intOf]; (try omega)⟩
    · obtain rfl : k = l.length := by omega
      rw [List.take_length] at hown
      have hownS := own_hid hown
      clear hown
      go_wp2_with fail
      go_ret
      exact ⟨⟨_, rfl, hownS.out⟩, hb⟩

end Go.Proofs.Ytfhhkabdeajieaa
