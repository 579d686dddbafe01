/- Chapter 21: the reference's Pairs, and the tree of the entries. -/
import Derived.Test.YtfhhkabdeajieaaGreatSpI
import Derived.Test.YtfhhkabdeajieaaGreatSpH
import Derived.Deep.RegionHeld3
set_option linter.unusedVariables false
set_option linter.unusedSimpArgs false
namespace Go.Proofs.YtfhhkabdeajieaaGreat
open Go.RowKit Fx

/-- The pairs of each of the first n entries with those ahead of it. -/
def prB (c : Bxs) : Nat → List (Int × Int)
  | 0 => []
  | n + 1 => prB c n ++ fl (c.getD n default) (c.take n)
theorem prB_succ {c : Bxs} {n : Nat} (h : n < c.length) : prB c (n + 1) = prB c n ++ fl c[n] (c.take n) := by
  show prB c n ++ fl (c.getD n default) (c.take n) = _
  rw [List.getD_eq_getElem?_getD, List.getElem?_eq_getElem h]; rfl
theorem hidOfL {p : Prop} (h : p) : Hid p := h
theorem prB_len (c : Bxs) : ∀ n, (prB c n).length ≤ n * 30 ∨ 30 < n
  | 0 => .inl (by simp [prB])
  | n + 1 => by
    rcases prB_len c n with h | h
    · by_cases h30 : n ≤ 29
      · refine .inl ?_
        have h1 := fl_len (c.getD n default) (c.take n)
        rw [List.length_take] at h1
        show (prB c n ++ fl (c.getD n default) (c.take n)).length ≤ _
        rw [List.length_append]; omega
      · exact .inr (by omega)
    · exact .inr (by omega)
theorem prB_mem {c : Bxs} (hd : Dst c) : ∀ n, n ≤ c.length → ∀ x, x ∈ prB c n ↔ InP (c.take n) x
  | 0, _, x => by simp [prB, InP]
  | n + 1, h, x => by
    have hn : n < c.length := by omega
    rw [prB_succ hn, List.mem_append, prB_mem hd n (by omega) x, ← List.take_append_getElem hn]
    have hp : (c[n] :: c.take n).Perm (c.take n ++ [c[n]]) := (List.perm_append_comm (l₁ := [c[n]]) (l₂ := c.take n))
    have hd2 : Dst (c.take n ++ [c[n]]) := by rw [List.take_append_getElem hn]; exact hd.sublist (List.take_sublist _ _)
    rw [InP.congr (fun e => hp.symm.mem_iff) x, InP_cons (hd2.perm hp.symm)]
    exact Or.comm
theorem mrg_prB {c : Bxs} (hd : Dst c) : mrg (prB c c.length) = prP c := prP_eq hd (mrg_srt _) fun x => by
  rw [mrg_mem, prB_mem hd _ (Nat.le_refl _), List.take_length]

set_option maxRecDepth 100000 in
set_option maxHeartbeats 16000000 in
theorem rprs21_b (v : Value) (l : List En) (hl : l.length ≤ 30) (w : World) (h : Vw5 38 w v l) : Calls Tryz.prog 9 #[v] w fun e w' => (∃ v, e = .returned v ∧ w'.ownsRow w.heap.size 45 2 v (prP (cnt l)).length (pv (prP (cnt l)))) ∧ Below w.heap.size w w' := by
  obtain ⟨C, hC⟩ : ∃ C, Hid (cnt l = C) := ⟨_, rfl⟩
  have hCl : C.length ≤ 30 := by rw [← hC.out]; have := cnt_len l; omega
  have hCd : Hid (Dst C) := by show _; rw [← hC.out]; exact cnt_dst l
  rw [hC.out]
  go_enter Tryz.func9, Tryz.ntmps9
  go_wp2_with (go_at_call 22; refine Calls.mono (rfilter_b v l (by omega) _ h) ?_; rintro e W ⟨⟨cv, rfl, hcv⟩, hbW⟩; rw [hC.out] at hcv)
  have hszW := hbW.size
  have hvc := vw5_own u_re sz_re hcv
  have hclen := hvc.len
  clear hcv
  go_loopw [4, 5] (fun c i wr => ∃ k : Nat, k ≤ C.length ∧ i = .int .i64 (k : Int) ∧ wr.ownsRow w.heap.size 45 2 c (mrg (prB C k)).length (pv (mrg (prB C k))) ∧ Below W.heap.size W wr) (fun _ i _ => C.length - (intOf i).toNat)
  case atStart => exact ⟨0, by omega, rfl, World.ownsRow_nil _ _ _ _, Below.refl _ _⟩
  case round =>
    obtain ⟨k, hk, rfl, hown, hbR⟩ := hrel
    have hszR := hbR.size
    by_cases hlt : k < C.length
    · obtain ⟨g, o, hix, hc0⟩ := hvc.ix k hlt
      have hc := hidOfL hc0
      clear hc0
      have hst : Hid (prB C (k + 1) = prB C k ++ fl C[k] (C.take k)) := prB_succ hlt
      have hbl : (prB C k).length ≤ 900 := by rcases prB_len C k with h | h <;> omega
      obtain ⟨B0, hB0⟩ : ∃ B0, Hid (prB C k = B0) := ⟨_, rfl⟩
      rw [hB0.out] at hst hown hbl
      obtain ⟨e, he⟩ : ∃ e, C[k] = e := ⟨_, rfl⟩
      have hek : Hid (C[k] = e) := he
      rw [he] at hst hc
      clear he
      obtain ⟨i, x0, x1, x2, x3⟩ := e
      dsimp only at hc
      have hown0 : wr.ownsRow w.heap.size 45 2 u4 (mrg (B0 ++ fl (i, ⟨x0, x1, x2, x3⟩) (C.take 0))).length (pv (mrg (B0 ++ fl (i, ⟨x0, x1, x2, x3⟩) (C.take 0)))) := by simpa [fl] using hown
      clear hown
      go_wp2_with fail
      go_loopw [4, 6] (fun c j wx => ∃ m : Nat, m ≤ k ∧ j = .int .i64 (m : Int) ∧ wx.ownsRow w.heap.size 45 2 c (mrg (B0 ++ fl (i, ⟨x0, x1, x2, x3⟩) (C.take m))).length (pv (mrg (B0 ++ fl (i, ⟨x0, x1, x2, x3⟩) (C.take m)))) ∧ Below W.heap.size W wx) (fun _ j _ => k - (intOf j).toNat)
      case atStart => exact ⟨0, by omega, rfl, hown0, hbR⟩
      case round =>
        obtain ⟨m, hm, rfl, hown, hbx⟩ := hrel
        have hszX := hbx.size
        have hbwx := Below.trans hbW (hbx.mono hszW)
        by_cases hmt : m < k
        · obtain ⟨og, d0, d1, d2, d3, d4⟩ := hc.out _ hbx
          obtain ⟨g2, o2, hix2, hc2⟩ := hvc.ix m (by omega)
          obtain ⟨og2, f0, f1, f2, f3, f4⟩ := hc2 _ hbx
          have hc2' := hidOfL hc2
          clear hc2
          have hst2 : Hid (fl (i, ⟨x0, x1, x2, x3⟩) (C.take (m + 1)) = fl (i, ⟨x0, x1, x2, x3⟩) (C.take m) ++ if Bx.ovl ⟨x0, x1, x2, x3⟩ (C[m]'(by omega)).2 then [mm (i, ⟨x0, x1, x2, x3⟩) (C[m]'(by omega))] else []) := by
            show _ = _
            rw [← fl_snoc, List.take_append_getElem]
          have hml : (mrg (B0 ++ fl (i, ⟨x0, x1, x2, x3⟩) (C.take m))).length ≤ 1000 := Nat.le_trans (mrg_len _) (by rw [List.length_append]; have h1 := fl_len (i, ⟨x0, x1, x2, x3⟩) (C.take m); rw [List.length_take] at h1; omega)
          generalize C[m]'(by omega) = f at *
          obtain ⟨j, y0, y1, y2, y3⟩ := f
          dsimp only at f0 f1 f2 f3 f4 hst2 hc2'
          obtain ⟨F, hF⟩ : ∃ F, Hid (fl (i, ⟨x0, x1, x2, x3⟩) (C.take m) = F) := ⟨_, rfl⟩
          rw [hF.out] at hst2 hown hml
          cases hov : Bx.ovl ⟨x0, x1, x2, x3⟩ ⟨y0, y1, y2, y3⟩ with
          | false =>
            rw [hov] at hst2
            have hst3 : Hid (fl (i, ⟨x0, x1, x2, x3⟩) (C.take (m + 1)) = F) := by show _ = _; rw [hst2.out]; simp
            have ho : ovl8 x0 x1 x2 x3 y0 y1 y2 y3 = false := hov
            clear hst2 hov
            go_wp2_with fail
            refine wp_region_gw (by kernel_rfl) (by kernel_rfl) ?_
            repeat (go_big_quiet_step ((first | (go_at_call 23; with_reducible_and_instances exact gw_call (boolIs (rxovl_b x0 x1 x2 x3 y0 y1 y2 y3 _) ho)))))
            refine wpQuiet_nil ?_
            intro w1 hw1
            obtain ⟨q, rfl⟩ := hw1
            go_wp2_with fail
            exact ⟨⟨m + 1, by omega, by go_num, by rw [hst3.out]; exact owns_below hown bBel, bBel⟩, by (try go_num); simp [intOf]; (try omega)⟩
          | true =>
            rw [hov] at hst2
            have hst3 : Hid (mrg (B0 ++ fl (i, ⟨x0, x1, x2, x3⟩) (C.take (m + 1))) = insP (mrg (B0 ++ F)) (min i j, max i j)) := by show _ = _; rw [hst2.out, if_pos rfl, ← List.append_assoc, mrg_snoc]; rfl
            have ho : ovl8 x0 x1 x2 x3 y0 y1 y2 y3 = true := hov
            clear hst2 hov
            go_wp2_with fail
            refine wp_region_gw (by kernel_rfl) (by kernel_rfl) ?_
            repeat (go_big_quiet_step ((first | (go_at_call 23; with_reducible_and_instances exact gw_call (boolIs (rxovl_b x0 x1 x2 x3 y0 y1 y2 y3 _) ho)))))
            refine wpQuiet_nil ?_
            intro w1 hw1
            obtain ⟨q, rfl⟩ := hw1
            go_upto_region 10 with fail
            refine wp_named ?_
            intro X hX
            have hbX : Below wr.heap.size wr X := by rw [hX]; exact bBel
            clear hX d0 d1 d2 d3 d4 f0 f1 f2 f3 f4 og og2
            have hszXX := hbX.size
            have hbWX := Below.trans hbx (hbX.mono hszX)
            have hownX := owns_below hown hbX
            have hcellX : ∀ w', Below X.heap.size X w' → Below X.heap.size X w' ∧ w'.cell? ⟨g, o, none⟩ = some (.int .i64 i) ∧ w'.cell? ⟨g2, o2, none⟩ = some (.int .i64 j) := fun w' h => by
              have h1 := hc.out w' (Below.trans hbWX (h.mono (by omega)))
              have h2 := hc2'.out w' (Below.trans hbWX (h.mono (by omega)))
              exact ⟨h, h1.2.1, h2.2.1⟩
            obtain ⟨-, d0, f0⟩ := hcellX X (Below.refl _ _)
            have og : older g X = true := older_of_cell d0
            have og2 : older g2 X = true := older_of_cell f0
            have hcI : ∀ w', Below X.heap.size X w' → Calls Tryz.prog 24 #[u4, .agg #[.int .i64 (min i j), .int .i64 (max i j)]] w' fun e w'' => (∃ v', e = .returned v' ∧ w''.ownsRow w.heap.size 45 2 v' (mrg (B0 ++ fl (i, ⟨x0, x1, x2, x3⟩) (C.take (m + 1)))).length (pv (mrg (B0 ++ fl (i, ⟨x0, x1, x2, x3⟩) (C.take (m + 1)))))) ∧ Below X.heap.size X w'' := fun w' h => by
              have h3 := h.size
              rw [hst3.out]
              exact (rins21_b w.heap.size _ (mrg (B0 ++ F)) (min i j) (max i j) (by omega) _ (by omega) (owns_below hownX h)).mono fun e w'' ⟨h4, h5⟩ => ⟨h4, Below.trans h (h5.mono h3)⟩
            clear hc hc2' hownX hown
            go_region_held3 (fun w' => Below X.heap.size X w' ∧ w'.cell? ⟨g, o, none⟩ = some (.int .i64 i) ∧ w'.cell? ⟨g2, o2, none⟩ = some (.int .i64 j)) (first | (refine hcellX _ ?_; exact bBel)) ((go_at_call 24; refine Calls.mono (hcI _ bBel) ?_; rintro e w2 ⟨⟨v', rfl, hown1⟩, hb1⟩))
            all_goals
              go_wp2_with fail
              exact ⟨⟨m + 1, by omega, by go_num, hown1, Below.trans hbWX (hb1.mono (by omega))⟩, by (try go_num); simp [intOf]; (try omega)⟩
        · obtain rfl : m = k := by omega
          have hown2 : wr.ownsRow w.heap.size 45 2 u4 (mrg (prB C (m + 1))).length (pv (mrg (prB C (m + 1)))) := by rw [hst.out]; exact hown
          clear hown
          go_wp2_with fail
          exact ⟨⟨m + 1, by omega, by go_num, hown2, hbx⟩, by (try go_num); simp [intOf]; (try omega)⟩
    · obtain rfl : k = C.length := by omega
      rw [mrg_prB hCd.out] at hown
      have hownS := own_hid hown
      clear hown
      go_wp2_with fail
      go_ret
      exact ⟨⟨_, rfl, hownS.out⟩, Below.trans hbW (hbR.mono hszW)⟩

end Go.Proofs.YtfhhkabdeajieaaGreat
