/- Chapter 21: the reference's Sort. -/
import Derived.Test.YtfhhkabdeajieaaSpI
import Derived.Test.YtfhhkabdeajieaaSpH
set_option linter.unusedVariables false
set_option linter.unusedSimpArgs false
namespace Go.Proofs.Ytfhhkabdeajieaa
open Go.RowKit Fx

theorem ev_drop21 : ∀ (L : Bxs) (k : Nat), (ev L).drop (k * 5) = ev (L.drop k)
  | [], k => by simp [ev]
  | x :: L, 0 => by simp
  | x :: L, k + 1 => by
    have := ev_drop21 L k
    rw [show (k + 1) * 5 = 5 + k * 5 by omega, ← List.drop_drop]
    simp only [ev, List.flatMap_cons] at this ⊢
    rw [List.drop_left' (ec_len x)]
    simpa using this
theorem ev_take21 : ∀ (L : Bxs) (k : Nat), (ev L).take (k * 5) = ev (L.take k)
  | [], k => by simp [ev]
  | x :: L, 0 => by simp [ev]
  | x :: L, k + 1 => by
    have := ev_take21 L k
    rw [show (k + 1) * 5 = 5 + k * 5 by omega, List.take_add]
    simp only [ev, List.flatMap_cons, List.take_succ_cons] at this ⊢
    rw [List.drop_left' (ec_len x), List.take_left' (ec_len x), this]
theorem ev_one21 (L : Bxs) : ∀ u ∈ ev L, u.oneCell' = true := fun u hu => by
  obtain ⟨p, _, hu⟩ := List.mem_flatMap.1 hu
  simp [ec] at hu; rcases hu with rfl | rfl | rfl | rfl | rfl <;> rfl
theorem ltE_case (y0 id x0 i : Int) (Q : Prop) (hQ : Q ↔ (y0 < x0 ∨ y0 = x0 ∧ id < i)) : (y0 < x0 ∧ Q) ∨ (¬ y0 < x0 ∧ (y0 == x0) = false ∧ ¬ Q) ∨ (¬ y0 < x0 ∧ (y0 == x0) = true ∧ id < i ∧ Q) ∨ (¬ y0 < x0 ∧ (y0 == x0) = true ∧ ¬ id < i ∧ ¬ Q) := by
  simp only [hQ, beq_iff_eq, beq_eq_false_iff_ne]
  omega
theorem own_nil21e {w : World} {g B k : Nat} {e : TypeId} (h : blk w g #[] e) (hB : B ≤ g) : w.ownsRow B e k (.slice (some ⟨g, 0, none⟩) 0 0) 0 [] :=
  ⟨by simp, .inr ⟨g, 0, #[], rfl, hB, h, Nat.le_refl _, by decide, by simp, by simp⟩⟩

set_option maxRecDepth 100000 in
set_option maxHeartbeats 16000000 in
theorem rsort_b (v : Value) (l : List En) (hl : l.length ≤ 1000) (w : World) (h : Vw5 25 w v l) : Calls Try.prog 10 #[v] w fun e w' => (∃ v, e = .returned v ∧ w'.ownsRow w.heap.size 35 5 v (srE (cnt l)).length (ev (srE (cnt l)))) ∧ Below w.heap.size w w' := by
  obtain ⟨i0, hi, hz0, hz1, hz2⟩ := info_parts info_re
  obtain ⟨C, hC⟩ : ∃ C, Hid (cnt l = C) := ⟨_, rfl⟩
  have hCl : C.length ≤ 1000 := by rw [← hC.out]; have := cnt_len l; omega
  have hCd : Hid (Dst C) := by show _; rw [← hC.out]; exact cnt_dst l
  rw [hC.out]
  go_enter Try.func10, Try.ntmps10
  go_wp2_with (go_at_call 32; refine Calls.mono (rfilter_b v l (by omega) _ h) ?_; rintro e W ⟨⟨cv, rfl, hcv⟩, hbW⟩; rw [hC.out] at hcv)
  have hszW := hbW.size
  have hvc := vw5_own u_re sz_re hcv
  have hclen := hvc.len
  clear hcv
  go_loopw [4, 5] (fun c i wr => ∃ k : Nat, k ≤ C.length ∧ i = .int .i64 (k : Int) ∧ wr.ownsRow w.heap.size 35 5 c (srE (C.take k)).length (ev (srE (C.take k))) ∧ Below W.heap.size W wr) (fun _ i _ => C.length - (intOf i).toNat)
  case atStart => exact ⟨0, by omega, rfl, World.ownsRow_nil _ _ _ _, Below.refl _ _⟩
  case round =>
    obtain ⟨k, hk, rfl, hown, hbR⟩ := hrel
    have hszR := hbR.size
    have hbwr := Below.trans hbW (hbR.mono hszW)
    have hszwr := hbwr.size
    by_cases hlt : k < C.length
    · obtain ⟨g, o, hix, hc⟩ := hvc.ix k hlt
      have hst : Hid (srE (C.take (k + 1)) = insE (srE (C.take k)) C[k]) := srE_take hlt
      have hdk : Hid (Dst (C.take k)) := hCd.out.sublist (List.take_sublist _ _)
      have hol : (srE (C.take k)).length ≤ k := by rw [srE_len hdk.out, List.length_take]; omega
      obtain ⟨O, hO⟩ : ∃ O, Hid (srE (C.take k) = O) := ⟨_, rfl⟩
      rw [hO.out] at hown hst hol
      have hvo := vw5_own u_re sz_re hown
      have hOlen := hvo.len
      obtain ⟨e, he⟩ : ∃ e, C[k] = e := ⟨_, rfl⟩
      have hek : Hid (C[k] = e) := he
      rw [he] at hst hc
      clear he
      obtain ⟨i, x0, x1, x2, x3⟩ := e
      dsimp only at hc
      go_wp2_with fail
      generalize wr = V at *
      go_loopw [6] (fun j wx => ∃ m : Nat, m ≤ O.length ∧ j = .int .i64 (m : Int) ∧ Hid (∀ j (h : j < O.length), j < m → ltE O[j] (i, ⟨x0, x1, x2, x3⟩)) ∧ Below V.heap.size V wx) (fun j _ => O.length - (intOf j).toNat)
      case atStart => exact ⟨0, by omega, rfl, fun j _ h => by omega, Below.refl _ _⟩
      case round =>
        obtain ⟨m, hm, rfl, hno, hbx⟩ := hrel
        have hszX := hbx.size
        have hbWx := Below.trans hbR (hbx.mono hszR)
        have hszWx := hbWx.size
        obtain ⟨og, d0, d1, d2, d3, d4⟩ := hc _ hbWx
        by_cases hmt : m < O.length
        · obtain ⟨g2, o2, hix2, hc2⟩ := hvo.ix m hmt
          obtain ⟨og2, f0, f1, f2, f3, f4⟩ := hc2 _ hbx
          have hno2 : Hid (ltE O[m] (i, ⟨x0, x1, x2, x3⟩) → ∀ j (h : j < O.length), j < m + 1 → ltE O[j] (i, ⟨x0, x1, x2, x3⟩)) := fun h2 j hj hjk => by
            rcases Nat.lt_or_eq_of_le (Nat.le_of_lt_succ hjk) with h3 | rfl
            · exact hno.out j hj h3
            · exact h2
          have hstop : Hid (¬ ltE O[m] (i, ⟨x0, x1, x2, x3⟩) → srE (C.take (k + 1)) = O.take m ++ (i, ⟨x0, x1, x2, x3⟩) :: O.drop m) := fun h2 => by
            rw [hst.out, insE_at hm hno.out (fun _ => h2)]
          have hcase : Hid ((O[m].2.x0 < x0 ∧ ltE O[m] (i, ⟨x0, x1, x2, x3⟩)) ∨ (¬ O[m].2.x0 < x0 ∧ (O[m].2.x0 == x0) = false ∧ ¬ ltE O[m] (i, ⟨x0, x1, x2, x3⟩)) ∨ (¬ O[m].2.x0 < x0 ∧ (O[m].2.x0 == x0) = true ∧ O[m].1 < i ∧ ltE O[m] (i, ⟨x0, x1, x2, x3⟩)) ∨ (¬ O[m].2.x0 < x0 ∧ (O[m].2.x0 == x0) = true ∧ ¬ O[m].1 < i ∧ ¬ ltE O[m] (i, ⟨x0, x1, x2, x3⟩))) := by
            exact ltE_case _ _ _ _ _ Iff.rfl
          clear hc2 hno
          generalize hQ : ltE O[m] (i, ⟨x0, x1, x2, x3⟩) = Q at *
          clear hQ
          generalize O[m].1 = id at *
          generalize O[m].2.x0 = y0 at *
          generalize O[m].2.y0 = y1 at *
          generalize O[m].2.x1 = y2 at *
          generalize O[m].2.y1 = y3 at *
          rcases hcase.out with ⟨c1, hq⟩ | ⟨c1, c2, hq⟩ | ⟨c1, c2, c3, hq⟩ | ⟨c1, c2, c3, hq⟩
          · have hn3 := hno2.out hq
            have hn4 : Hid (∀ j (h : j < O.length), j < m + 1 → ltE O[j] (i, ⟨x0, x1, x2, x3⟩)) := hn3
            clear hn3 hno2 hstop hq hcase
            go_wp2_with fail
            refine wp_region_gw (by kernel_rfl) (by kernel_rfl) ?_
            repeat (go_big_quiet_step (fail))
            refine wpQuiet_nil ?_
            intro w1 hw1
            obtain ⟨q, rfl⟩ := hw1
            go_wp2_with fail
            exact ⟨⟨m + 1, by omega, by go_num, hn4, bBel⟩, by (try go_num); simp [intOf]; (try omega)⟩
          · have c1b : decide (y0 < x0) = false := by simpa using c1
            have hs3 := hstop.out hq
            have hs4 : Hid (srE (C.take (k + 1)) = O.take m ++ (i, ⟨x0, x1, x2, x3⟩) :: O.drop m) := hs3
            clear hs3 hno2 hstop hq hcase
            go_wp2_with fail
            refine wp_region_gw (by kernel_rfl) (by kernel_rfl) ?_
            repeat (go_big_quiet_step (fail))
            refine wpQuiet_nil ?_
            intro w1 hw1
            obtain ⟨q, rfl⟩ := hw1
            go_upto_region 9 with fail
            refine wp_named ?_
            intro Y hY
            have hbY : Below V.heap.size V Y := by rw [hY]; exact bBel
            clear hY
            have hszY := hbY.size
            have hownY := owns_below hown hbY
            have hvoY := hvo.to hbY
            obtain ⟨A1, s1, r1, -, z1, q1, p1⟩ := own_hi21 u_re hi hz1 hownY m (by omega) m rfl
            obtain ⟨A2, s2, r2, -, z2, q2, p2⟩ := own_lo21 u_re hi hz1 hownY m (by omega) m rfl
            rw [ev_take21] at p1
            rw [ev_drop21] at p2
            have e1 : (ev (O.take m)).length = m * 5 := by rw [ev_len, List.length_take]; omega
            have e2 : (ev (O.drop m)).length = (O.length - m) * 5 := by rw [ev_len, List.length_drop]
            have g1 := ev_one21 (O.take m)
            have g2 := ev_one21 (O.drop m)
            have f1 : Hid ([] ++ ev (O.take m) ++ [.int .i64 i, .int .i64 x0, .int .i64 x1, .int .i64 x2, .int .i64 x3] ++ ev (O.drop m) = ev (srE (C.take (k + 1)))) := by
              show _ = _
              rw [hs4.out, List.nil_append]; simp [ev, ec]
            have hRl : Hid ((srE (C.take (k + 1))).length = O.length + 1) := by show _ = _; rw [hs4.out]; simp <;> omega
            generalize ev (O.take m) = Y1 at *
            generalize ev (O.drop m) = Y2 at *
            obtain ⟨gc, oc, hixc, hcc⟩ := hvc.ix k hlt
            rw [hek.out] at hcc
            dsimp only at hcc
            have hbWY : Below W.heap.size W Y := Below.trans hbR (hbY.mono hszR)
            have hszWY := hbWY.size
            go_upto_region 10 with (at_builtin; refine wpList_appE21 rfl _ _ 25 rfl Y.heap.size 35 i0 (.agg #[.int .i64 0, .int .i64 0, .int .i64 0, .int .i64 0, .int .i64 0]) 5 40 (by kernel_rfl) hi hz0 hz1 hz2 rfl (by decide) _ 0 [] rfl (own_nil21e bBkn (by omega)) A1 m s1 Y1 rfl z1 q1 e1 (Cs.to p1 bBel) g1 (by unfold maxLen; omega) (by omega) (by first | (simp; done) | (simp; omega) | omega) ?_; intro v1 w1 hown1 hb1)
            have hbY1 : Below Y.heap.size Y w1 := Below.trans ((Below.refl _ Y).alloc (Nat.le_refl _) _) hb1
            have hszY1 := hbY1.size
            have hbW1 : Below W.heap.size W w1 := Below.trans hbWY (hbY1.mono hszWY)
            obtain ⟨oc1, b0, b1, b2, b3, b4⟩ := hcc w1 hbW1
            clear hb1
            go_upto_region 11 with (at_builtin; refine wpList_app21 rfl _ _ 25 rfl Y.heap.size 35 i0 (.agg #[.int .i64 0, .int .i64 0, .int .i64 0, .int .i64 0, .int .i64 0]) 5 40 (by kernel_rfl) hi hz0 hz1 hz2 rfl (by decide) _ _ _ rfl (owns_below hown1 bBel) _ [.int .i64 i, .int .i64 x0, .int .i64 x1, .int .i64 x2, .int .i64 x3] 35 rfl rfl bBkn (by intro u hu; simp at hu; rcases hu with rfl | rfl | rfl | rfl | rfl <;> rfl) (by unfold maxLen; omega) (by omega) (by first | (simp; done) | (simp; omega) | omega) ?_; intro v2 w2 hown2 hb2 _ _)
            have hbY2 : Below Y.heap.size Y w2 := Below.trans hbY1 (Below.trans ((Below.refl _ w1).alloc hszY1 _) hb2)
            have hbW2 : Below W.heap.size W w2 := Below.trans hbWY (hbY2.mono hszWY)
            clear hb2
            have hszY2 := hbY2.size
            go_wp2_with (at_builtin; refine wpList_appE21 rfl _ _ 25 rfl Y.heap.size 35 i0 (.agg #[.int .i64 0, .int .i64 0, .int .i64 0, .int .i64 0, .int .i64 0]) 5 40 (by kernel_rfl) hi hz0 hz1 hz2 rfl (by decide) _ _ _ rfl hown2 A2 (O.length - m) s2 Y2 rfl z2 q2 e2 (Cs.to p2 hbY2) g2 (by unfold maxLen; omega) (by omega) (by first | (simp; done) | (simp; omega) | omega) ?_; intro v3 w3 hown3 hb3)
            exact ⟨⟨k + 1, by omega, by go_num, owns_base (own_castk21 hown3 (by have := hRl.out; omega) f1.out) (by omega), Below.trans hbW2 (hb3.mono hszWY)⟩, by (try go_num); simp [intOf]; (try omega)⟩
          · have c1b : decide (y0 < x0) = false := by simpa using c1
            have hn3 := hno2.out hq
            have hn4 : Hid (∀ j (h : j < O.length), j < m + 1 → ltE O[j] (i, ⟨x0, x1, x2, x3⟩)) := hn3
            clear hn3 hno2 hstop hq hcase
            go_wp2_with fail
            refine wp_region_gw (by kernel_rfl) (by kernel_rfl) ?_
            repeat (go_big_quiet_step (fail))
            refine wpQuiet_nil ?_
            intro w1 hw1
            obtain ⟨q, rfl⟩ := hw1
            go_wp2_with fail
            exact ⟨⟨m + 1, by omega, by go_num, hn4, bBel⟩, by (try go_num); simp [intOf]; (try omega)⟩
          · have c1b : decide (y0 < x0) = false := by simpa using c1
            have c3b : decide (id < i) = false := by simpa using c3
            have hs3 := hstop.out hq
            have hs4 : Hid (srE (C.take (k + 1)) = O.take m ++ (i, ⟨x0, x1, x2, x3⟩) :: O.drop m) := hs3
            clear hs3 hno2 hstop hq hcase
            go_wp2_with fail
            refine wp_region_gw (by kernel_rfl) (by kernel_rfl) ?_
            repeat (go_big_quiet_step (fail))
            refine wpQuiet_nil ?_
            intro w1 hw1
            obtain ⟨q, rfl⟩ := hw1
            go_upto_region 9 with fail
            refine wp_named ?_
            intro Y hY
            have hbY : Below V.heap.size V Y := by rw [hY]; exact bBel
            clear hY
            have hszY := hbY.size
            have hownY := owns_below hown hbY
            have hvoY := hvo.to hbY
            obtain ⟨A1, s1, r1, -, z1, q1, p1⟩ := own_hi21 u_re hi hz1 hownY m (by omega) m rfl
            obtain ⟨A2, s2, r2, -, z2, q2, p2⟩ := own_lo21 u_re hi hz1 hownY m (by omega) m rfl
            rw [ev_take21] at p1
            rw [ev_drop21] at p2
            have e1 : (ev (O.take m)).length = m * 5 := by rw [ev_len, List.length_take]; omega
            have e2 : (ev (O.drop m)).length = (O.length - m) * 5 := by rw [ev_len, List.length_drop]
            have g1 := ev_one21 (O.take m)
            have g2 := ev_one21 (O.drop m)
            have f1 : Hid ([] ++ ev (O.take m) ++ [.int .i64 i, .int .i64 x0, .int .i64 x1, .int .i64 x2, .int .i64 x3] ++ ev (O.drop m) = ev (srE (C.take (k + 1)))) := by
              show _ = _
              rw [hs4.out, List.nil_append]; simp [ev, ec]
            have hRl : Hid ((srE (C.take (k + 1))).length = O.length + 1) := by show _ = _; rw [hs4.out]; simp <;> omega
            generalize ev (O.take m) = Y1 at *
            generalize ev (O.drop m) = Y2 at *
            obtain ⟨gc, oc, hixc, hcc⟩ := hvc.ix k hlt
            rw [hek.out] at hcc
            dsimp only at hcc
            have hbWY : Below W.heap.size W Y := Below.trans hbR (hbY.mono hszR)
            have hszWY := hbWY.size
            go_upto_region 10 with (at_builtin; refine wpList_appE21 rfl _ _ 25 rfl Y.heap.size 35 i0 (.agg #[.int .i64 0, .int .i64 0, .int .i64 0, .int .i64 0, .int .i64 0]) 5 40 (by kernel_rfl) hi hz0 hz1 hz2 rfl (by decide) _ 0 [] rfl (own_nil21e bBkn (by omega)) A1 m s1 Y1 rfl z1 q1 e1 (Cs.to p1 bBel) g1 (by unfold maxLen; omega) (by omega) (by first | (simp; done) | (simp; omega) | omega) ?_; intro v1 w1 hown1 hb1)
            have hbY1 : Below Y.heap.size Y w1 := Below.trans ((Below.refl _ Y).alloc (Nat.le_refl _) _) hb1
            have hszY1 := hbY1.size
            have hbW1 : Below W.heap.size W w1 := Below.trans hbWY (hbY1.mono hszWY)
            obtain ⟨oc1, b0, b1, b2, b3, b4⟩ := hcc w1 hbW1
            clear hb1
            go_upto_region 11 with (at_builtin; refine wpList_app21 rfl _ _ 25 rfl Y.heap.size 35 i0 (.agg #[.int .i64 0, .int .i64 0, .int .i64 0, .int .i64 0, .int .i64 0]) 5 40 (by kernel_rfl) hi hz0 hz1 hz2 rfl (by decide) _ _ _ rfl (owns_below hown1 bBel) _ [.int .i64 i, .int .i64 x0, .int .i64 x1, .int .i64 x2, .int .i64 x3] 35 rfl rfl bBkn (by intro u hu; simp at hu; rcases hu with rfl | rfl | rfl | rfl | rfl <;> rfl) (by unfold maxLen; omega) (by omega) (by first | (simp; done) | (simp; omega) | omega) ?_; intro v2 w2 hown2 hb2 _ _)
            have hbY2 : Below Y.heap.size Y w2 := Below.trans hbY1 (Below.trans ((Below.refl _ w1).alloc hszY1 _) hb2)
            have hbW2 : Below W.heap.size W w2 := Below.trans hbWY (hbY2.mono hszWY)
            clear hb2
            have hszY2 := hbY2.size
            go_wp2_with (at_builtin; refine wpList_appE21 rfl _ _ 25 rfl Y.heap.size 35 i0 (.agg #[.int .i64 0, .int .i64 0, .int .i64 0, .int .i64 0, .int .i64 0]) 5 40 (by kernel_rfl) hi hz0 hz1 hz2 rfl (by decide) _ _ _ rfl hown2 A2 (O.length - m) s2 Y2 rfl z2 q2 e2 (Cs.to p2 hbY2) g2 (by unfold maxLen; omega) (by omega) (by first | (simp; done) | (simp; omega) | omega) ?_; intro v3 w3 hown3 hb3)
            exact ⟨⟨k + 1, by omega, by go_num, owns_base (own_castk21 hown3 (by have := hRl.out; omega) f1.out) (by omega), Below.trans hbW2 (hb3.mono hszWY)⟩, by (try go_num); simp [intOf]; (try omega)⟩
        · obtain rfl : m = O.length := by omega
          have hs4 : Hid (srE (C.take (k + 1)) = O.take O.length ++ (i, ⟨x0, x1, x2, x3⟩) :: O.drop O.length) := by
            show _ = _
            rw [hst.out, insE_at (Nat.le_refl _) hno.out (fun h => by omega)]
          clear hno d0 d1 d2 d3 d4
          go_wp2_with fail
          refine wp_region_gw (by kernel_rfl) (by kernel_rfl) ?_
          repeat (go_big_quiet_step (fail))
          refine wpQuiet_nil ?_
          intro w1 hw1
          obtain ⟨q, rfl⟩ := hw1
          go_upto_region 9 with fail
          refine wp_named ?_
          intro Y hY
          have hbY : Below V.heap.size V Y := by rw [hY]; exact bBel
          clear hY
          have hszY := hbY.size
          have hownY := owns_below hown hbY
          have hvoY := hvo.to hbY
          obtain ⟨A1, s1, r1, -, z1, q1, p1⟩ := own_hi21 u_re hi hz1 hownY O.length (by omega) O.length rfl
          obtain ⟨A2, s2, r2, -, z2, q2, p2⟩ := own_lo21 u_re hi hz1 hownY O.length (by omega) O.length rfl
          rw [ev_take21] at p1
          rw [ev_drop21] at p2
          have e1 : (ev (O.take O.length)).length = O.length * 5 := by rw [ev_len, List.length_take]; omega
          have e2 : (ev (O.drop O.length)).length = 0 * 5 := by rw [ev_len, List.length_drop, Nat.sub_self]
          rw [Nat.sub_self] at r2 q2
          have g1 := ev_one21 (O.take O.length)
          have g2 := ev_one21 (O.drop O.length)
          have f1 : Hid ([] ++ ev (O.take O.length) ++ [.int .i64 i, .int .i64 x0, .int .i64 x1, .int .i64 x2, .int .i64 x3] ++ ev (O.drop O.length) = ev (srE (C.take (k + 1)))) := by
            show _ = _
            rw [hs4.out, List.nil_append]; simp [ev, ec]
          have hRl : Hid ((srE (C.take (k + 1))).length = O.length + 1) := by show _ = _; rw [hs4.out]; simp <;> omega
          generalize ev (O.take O.length) = Y1 at *
          generalize ev (O.drop O.length) = Y2 at *
          obtain ⟨gc, oc, hixc, hcc⟩ := hvc.ix k hlt
          rw [hek.out] at hcc
          dsimp only at hcc
          have hbWY : Below W.heap.size W Y := Below.trans hbR (hbY.mono hszR)
          have hszWY := hbWY.size
          go_upto_region 10 with (at_builtin; refine wpList_appE21 rfl _ _ 25 rfl Y.heap.size 35 i0 (.agg #[.int .i64 0, .int .i64 0, .int .i64 0, .int .i64 0, .int .i64 0]) 5 40 (by kernel_rfl) hi hz0 hz1 hz2 rfl (by decide) _ 0 [] rfl (own_nil21e bBkn (by omega)) A1 O.length s1 Y1 rfl z1 q1 e1 (Cs.to p1 bBel) g1 (by unfold maxLen; omega) (by omega) (by first | (simp; done) | (simp; omega) | omega) ?_; intro v1 w1 hown1 hb1)
          have hbY1 : Below Y.heap.size Y w1 := Below.trans ((Below.refl _ Y).alloc (Nat.le_refl _) _) hb1
          have hszY1 := hbY1.size
          have hbW1 : Below W.heap.size W w1 := Below.trans hbWY (hbY1.mono hszWY)
          obtain ⟨oc1, b0, b1, b2, b3, b4⟩ := hcc w1 hbW1
          clear hb1
          go_upto_region 11 with (at_builtin; refine wpList_app21 rfl _ _ 25 rfl Y.heap.size 35 i0 (.agg #[.int .i64 0, .int .i64 0, .int .i64 0, .int .i64 0, .int .i64 0]) 5 40 (by kernel_rfl) hi hz0 hz1 hz2 rfl (by decide) _ _ _ rfl (owns_below hown1 bBel) _ [.int .i64 i, .int .i64 x0, .int .i64 x1, .int .i64 x2, .int .i64 x3] 35 rfl rfl bBkn (by intro u hu; simp at hu; rcases hu with rfl | rfl | rfl | rfl | rfl <;> rfl) (by unfold maxLen; omega) (by omega) (by first | (simp; done) | (simp; omega) | omega) ?_; intro v2 w2 hown2 hb2 _ _)
          have hbY2 : Below Y.heap.size Y w2 := Below.trans hbY1 (Below.trans ((Below.refl _ w1).alloc hszY1 _) hb2)
          have hbW2 : Below W.heap.size W w2 := Below.trans hbWY (hbY2.mono hszWY)
          clear hb2
          have hszY2 := hbY2.size
          go_wp2_with (at_builtin; refine wpList_appE21 rfl _ _ 25 rfl Y.heap.size 35 i0 (.agg #[.int .i64 0, .int .i64 0, .int .i64 0, .int .i64 0, .int .i64 0]) 5 40 (by kernel_rfl) hi hz0 hz1 hz2 rfl (by decide) _ _ _ rfl hown2 A2 0 s2 Y2 rfl z2 q2 e2 (Cs.to p2 hbY2) g2 (by unfold maxLen; omega) (by omega) (by first | (simp; done) | (simp; omega) | omega) ?_; intro v3 w3 hown3 hb3)
          exact ⟨⟨k + 1, by omega, by go_num, owns_base (own_castk21 hown3 (by have := hRl.out; omega) f1.out) (by omega), Below.trans hbW2 (hb3.mono hszWY)⟩, by (try go_num); simp [intOf]; (try omega)⟩
    · obtain rfl : k = C.length := by omega
      rw [List.take_length] at hown
      have hownS := own_hid hown
      clear hown
      go_wp2_with fail
      go_ret
      exact ⟨⟨_, rfl, hownS.out⟩, hbwr⟩

end Go.Proofs.Ytfhhkabdeajieaa
