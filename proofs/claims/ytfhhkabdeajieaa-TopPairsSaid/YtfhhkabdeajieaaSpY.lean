/- Chapter 21: the walk of TopPairs. -/
import Derived.Test.YtfhhkabdeajieaaSpW
import Derived.Test.YtfhhkabdeajieaaSpL
set_option linter.unusedVariables false
set_option linter.unusedSimpArgs false
namespace Go.Proofs.Ytfhhkabdeajieaa
open Go.RowKit Fx

theorem insC0_look {L : Bxs} {i : Int} {x : Bx} (h : insC L i x = 0) : look L i = none := by
  unfold insC at h
  split at h
  · split at h
    · omega
    · rename_i h2
      rcases hl : look L i with _ | x
      · rfl
      · rw [hl] at h2; exact (h2 rfl).elim
  · omega
theorem op_no {L : Bxs} {d : TopD} (h : opB L d = false) : opT L d = L := by
  unfold opB at h; unfold opT
  by_cases c : d.k % 3 = 0
  · rw [if_pos c] at h ⊢; unfold insT; rw [if_neg (by simpa using h)]
  · rw [if_neg c] at h ⊢
    by_cases c2 : d.k % 3 = 1
    · rw [if_pos c2] at h ⊢; unfold updT; rw [if_neg (by simpa using h)]
    · rw [if_neg c2] at h ⊢
      refine remL_none ?_
      rcases hl : look L d.i with _ | x
      · rfl
      · rw [hl] at h; cases h
theorem op_yes {L m : Bxs} {d : TopD} (hp : L.Perm m) (h : opB L d = true) : (opT L d).Perm (opE m d) := by
  have hr : (remL L d.i).Perm (remL m d.i) := hp.filter _
  unfold opB at h; unfold opT opE
  by_cases c : d.k % 3 = 0
  · rw [if_pos c] at h ⊢
    have h0 : insC L d.i d.x = 0 := by simpa using h
    have hl : look m d.i = none := look_none.2 fun e he => look_none.1 (insC0_look h0) e (hp.mem_iff.2 he)
    rw [insT_ok h0, if_neg (by omega), remL_none hl]
    exact (insL_perm d.i d.x L).trans ((hp.cons _).trans (List.perm_append_comm (l₁ := [(d.i, d.x)])))
  · rw [if_neg c] at h ⊢
    by_cases c2 : d.k % 3 = 1
    · rw [if_pos c2] at h ⊢
      have h0 : updC L d.i d.x = 0 := by simpa using h
      unfold updT
      rw [if_pos h0, if_neg (by omega)]
      exact (insL_perm d.i d.x _).trans ((hr.cons _).trans (List.perm_append_comm (l₁ := [(d.i, d.x)])))
    · rw [if_neg c2]
      by_cases c3 : d.k % 3 = 2
      · rw [if_pos c3, List.append_nil]; exact hr
      · omega
theorem opE_len (m : Bxs) (d : TopD) : (opE m d).length ≤ m.length + 1 := by
  have h : (remL m d.i).length ≤ m.length := List.length_filter_le _ _
  unfold opE
  rw [List.length_append]
  split <;> simp <;> omega
theorem dst_srt {L m : Bxs} (hs : Srt L) (hp : L.Perm m) : Dst m := Dst.perm (hs.imp fun {a b} h => by omega) hp
theorem cnt_all {m : Bxs} (hd : Dst m) (hv : ∀ e ∈ m, e.2.val = true) : cnt m = m := by rw [cnt_filter hd]; exact List.filter_eq_self.2 hv
theorem prL_top {L c : Bxs} (hs : Srt L) (h : L.Perm c) (hd : Dst c) : prL L = prP c :=
  prP_eq hd (prL_srt hs) fun x => mem_prL.trans (InP.congr (fun e => h.mem_iff) x)
theorem fl_rev (e : Int × Bx) (r : Bxs) : (fl e r.reverse).length = (fl e r).length := by
  unfold fl; rw [List.length_map, List.length_map, List.filter_reverse, List.length_reverse]
theorem prB_rev (c : Bxs) : ∀ n, n ≤ c.length → (prB c n).length = (prA (c.take n).reverse).length
  | 0, _ => by simp [prB, prA]
  | n + 1, h => by
    have hn : n < c.length := by omega
    rw [prB_succ hn, List.length_append, prB_rev c n (by omega), ← List.take_append_getElem hn, List.reverse_append]
    simp only [List.reverse_cons, List.reverse_nil, List.nil_append, List.cons_append, prA, List.length_append]
    rw [fl_rev]; omega
theorem prB_all {c : Bxs} (hd : Dst c) : (prB c c.length).length = (prP c).length := by
  have hd' : Dst c.reverse := hd.perm (List.reverse_perm c).symm
  have e : prP c.reverse = prP c := prP_eq hd (prP_srt hd') fun x => (prP_mem hd').trans (InP.congr (fun e => List.mem_reverse) x)
  rw [prB_rev c _ (Nat.le_refl _), List.take_length, (prA_perm hd').length_eq, e]
theorem mm_mem {c : Bxs} {e f : Int × Bx} (he : e ∈ c) (hf : f ∈ c) (hne : e.1 ≠ f.1) (ho : Bx.ovl e.2 f.2 = true) : InP c (mm e f) := by
  rcases Int.lt_or_gt_of_ne hne with h | h
  · exact ⟨e, he, f, hf, h, ho, by unfold mm; rw [Int.min_eq_left (by omega), Int.max_eq_right (by omega)]⟩
  · exact ⟨f, hf, e, he, h, by rw [ovl_sym]; exact ho, by unfold mm; rw [Int.min_eq_right (by omega), Int.max_eq_left (by omega)]⟩
theorem bel_butT {B : Nat} {w w' : World} {P : Nat → Prop} (h : But P w w') (hP : ∀ k, P k → B ≤ k) : B ≤ w.heap.size → Below B w w' := fun hB => ⟨h.os, h.tape, h.output, h.size, fun k hk => h.block k (by omega) (fun hh => by have := hP k hh; omega)⟩

set_option maxRecDepth 100000 in
set_option maxHeartbeats 16000000 in
theorem walk_TopPairs (A : Option Addr) (cap : Nat) (l : List TopD) (w : World) (ha : Tops w A l) : Calls Try.prog 7 #[.slice A l.length cap] w fun e w' => e = .returned (.bool true) ∧ Below w.heap.size w w' := by
  by_cases h40 : l.length ≤ 40
  rotate_left
  · have h40' : (l.length : Int) > 40 := by omega
    go_enter Try.func7, Try.ntmps7
    go_wp2_with (first
      | (go_at_call 21; with_reducible_and_instances refine Calls.mono (new_b _) ?_; rintro e W0 ⟨rfl, -, hb0⟩; have hz0 := hb0.size)
      | (go_at_call 22; refine Calls.mono (gw_at (pex_b _)) ?_; rintro e w1 ⟨rfl, q, rfl⟩))
    go_ret
    exact ⟨rfl, bBel⟩
  have h40' : ¬ (l.length : Int) > 40 := by omega
  go_enter Try.func7, Try.ntmps7
  go_wp2_with (go_at_call 21; with_reducible_and_instances refine Calls.mono (new_b _) ?_; rintro e W0 ⟨rfl, kt0, hb0⟩; have hT0 := new_tree kt0; clear kt0)
  go_loopw [4, 5] (fun v j wr => ∃ k : Nat, k ≤ l.length ∧ j = .int .i64 (k : Int) ∧ ∃ L S m, Hid (L.Perm m) ∧ m.length ≤ k ∧ wr.ownsRow w.heap.size 33 5 v m.length (ev m) ∧ Hid (∀ g, v.ownBlock = some g → ¬ S g) ∧ TreeAt wr w.heap.size L S ∧ Hid (∀ k, S k → w.heap.size ≤ k) ∧ Below w.heap.size w wr) (fun _ j _ => l.length - (intOf j).toNat)
  case atStart => exact ⟨0, by omega, rfl, [], _, [], List.Perm.refl _, Nat.le_refl _, World.ownsRow_nil _ _ _ _, fun g h => (by cases h), hT0, (show ∀ k, k = w.heap.size → w.heap.size ≤ k from fun k h => by omega), hb0⟩
  case round =>
    clear hT0 hb0
    obtain ⟨k, hkl, rfl, L, S, m, hP, hml, hown, hdj, hT, hS, hb⟩ := hrel
    have hszR := hb.size
    by_cases hlt : k < l.length
    · obtain ⟨b, off, rfl, hbl, hcell⟩ := tops_open ha (by omega)
      obtain ⟨⟨hik, hk0, -⟩, hc0⟩ := hcell k hlt
      obtain ⟨o, d0, d1, d2, d3, d4, d5⟩ := hc0 wr hb
      have hc := hidV hc0
      clear hcell hc0
      obtain ⟨D, hD⟩ : ∃ D, opB L l[k] = D := ⟨_, rfl⟩
      have hno : Hid (D = false → opT L l[k] = L) := fun h => op_no (hD.trans h)
      have hyes : Hid (D = true → (opT L l[k]).Perm (opE m l[k])) := fun h => op_yes hP.out (hD.trans h)
      have hEl := opE_len m l[k]
      have cA := fun w' h => aop_b w.heap.size L S l[k] hik hk0 w' h
      have cE := fun v w' h => apd_b v m l[k] (by omega) hk0 w' h
      rw [hD] at cA
      clear hD
      generalize opT L l[k] = L2 at *
      generalize opE m l[k] = m2 at *
      generalize l[k] = d at *
      obtain ⟨dk, i, x0, x1, x2, x3⟩ := d
      dsimp only at hc d0 d1 d2 d3 d4 d5 cA cE
      clear hik hk0
      cases D with
      | false =>
        obtain rfl := hno.out rfl
        clear hno hyes cE hEl
        go_wp2_with (go_at_call 23; fail "x")
        refine (cA _ hT).mono ?_
        rintro e W2 ⟨rfl, S2, hT2, hB2, hs2⟩
        have hb2 : Below w.heap.size w W2 := hb.trans (bel_butT hB2 (fun k hk => hS.out k hk) hszR)
        have hown2 := own_hid (owns_but hown hB2 hdj.out)
        have hdj2 : Hid (∀ g, u4.ownBlock = some g → ¬ S2 g) := fun g hg hh => by
          rcases hs2 g hh with h | h
          · exact hdj.out g hg h
          · have := (World.ownsRow.lt hown g hg).2; omega
        have hS2 : Hid (∀ k, S2 k → w.heap.size ≤ k) := fun k hk => by
          rcases hs2 k hk with h | h
          · exact hS.out k h
          · omega
        clear cA hT hS hdj hown hB2 hs2 o d0 d1 d2 d3 d4 d5 hc
        go_wp2_with fail
        exact ⟨⟨k + 1, by omega, by go_num, L2, S2, m, hP, by omega, owns_below hown2.out bBel, hdj2, hT2.below bBel, hS2, Below.trans hb2 bBel⟩, by (try go_num); simp [intOf]; (try omega)⟩
      | true =>
        have hP2 : Hid (L2.Perm m2) := hyes.out rfl
        clear hno hyes
        go_wp2_with (go_at_call 23; fail "x")
        refine (cA _ hT).mono ?_
        rintro e W2 ⟨rfl, S2, hT2, hB2, hs2⟩
        have hb2 : Below w.heap.size w W2 := hb.trans (bel_butT hB2 (fun k hk => hS.out k hk) hszR)
        have hvw := vw5_own u_se sz_se (owns_but hown hB2 hdj.out)
        have hS2 : Hid (∀ k, S2 k → w.heap.size ≤ k) := fun k hk => by
          rcases hs2 k hk with h | h
          · exact hS.out k h
          · omega
        have hsz2 := hb2.size
        clear cA hT hS hdj hown hB2 hs2 o d0 d1 d2 d3 d4 d5
        obtain ⟨o, d0, d1, d2, d3, d4, d5⟩ := hc.out W2 hb2
        clear hc
        have hlt2 : Hid (∀ k, S2 k → k < W2.heap.size) := hT2.lt
        go_wp2_with (go_at_call 24; refine Calls.mono (cE _ _ hvw) ?_; rintro e W3 ⟨⟨v3, rfl, hown3⟩, hb3⟩)
        have hT3 := hT2.below hb3
        have hdj3 : Hid (∀ g, v3.ownBlock = some g → ¬ S2 g) := fun g hg hh => by
          have h1 := (World.ownsRow.lt hown3 g hg).1
          have h2 := hlt2.out g hh
          omega
        exact ⟨⟨k + 1, by omega, by go_num, L2, S2, m2, hP2, by omega, owns_base hown3 (by omega), hdj3, hT3, hS2, Below.trans hb2 (hb3.mono hsz2)⟩, by (try go_num); simp [intOf]; (try omega)⟩
    · obtain rfl : k = l.length := by omega
      have hdm : Hid (Dst m) := dst_srt hT.srt hP.out
      have hcm : Hid (cnt m = m) := cnt_all hdm.out fun e he => hT.vals e (hP.out.mem_iff.2 he)
      obtain ⟨PP, hPP⟩ : ∃ PP, Hid (prP m = PP) := ⟨_, rfl⟩
      have hPL : Hid (prL L = PP) := by show _ = _; rw [prL_top hT.srt hP.out hdm.out, hPP.out]
      have hPC : Hid (prP (cnt m) = PP) := by show _ = _; rw [hcm.out, hPP.out]
      have hkm : Hid (∀ e ∈ m, i64k e.1) := fun e he => hT.keys e (hP.out.mem_iff.2 he)
      have hLm : Hid (L.length = m.length) := hP.out.length_eq
      have hm40 : m.length ≤ 40 := by omega
      have hPl : PP.length ≤ 2000 := by
        have h1 := (prA_perm hdm.out).length_eq
        have h2 := enu_len m m.length
        have h4 : m.length * m.length ≤ 40 * 40 := Nat.mul_le_mul hm40 hm40
        rw [enu_all] at h2
        rw [hPP.out] at h1
        omega
      have cN := fun w' h => len_b w.heap.size L S w' h
      rw [hLm.out] at cN
      obtain ⟨A2, cap2, rfl, -, -, -, hent⟩ := owns_ents hown
      clear hown hdj hS hP hLm hml ha
      go_wp2_with (first
        | (go_at_call 25; with_reducible_and_instances refine Calls.mono (pairs_b w.heap.size L S _ hT) ?_; rw [hPL.out]; rintro e W1 ⟨⟨av, rfl, hav⟩, hb1⟩; have hz1 := hb1.size; have hva := vw_own hav; have hent1 := hent.to hb1; have hT1 := hT.below hb1; have hbw1 := Below.trans hb (hb1.mono hszR); have hzw1 := hbw1.size)
        | (go_at_call 19; with_reducible_and_instances refine Calls.mono (pairs21_b A2 cap2 m (by omega) hkm.out _ hent1) ?_; rw [hPC.out]; rintro e W2 ⟨⟨bv, rfl, hbv⟩, hb2⟩; have hz2 := hb2.size; have hva2 := hva.to hb2; have hvb2 := vw_own hbv; have hent2 := hent1.to hb2; have hT2 := hT1.below hb2; have hbw2 := Below.trans hbw1 (hb2.mono hzw1); have hzw2 := hbw2.size; have la := hva2.len; have lb := hvb2.len)
        | (go_at_call 26; refine Calls.mono (gw_at (cN _ hT2)) ?_; rintro e w3 ⟨rfl, q3, rfl⟩))
      have hvm : Vw5 22 W2 (.slice A2 m.length cap2) m := vw5_ents u_se sz_se hent2
      have cT : ∀ v w' a b, (v = av ∨ v = bv) → PP.contains (min a b, max a b) = true → Below W2.heap.size W2 w' → Calls Try.prog 27 #[v, .int .i64 a, .int .i64 b] w' fun e w'' => e = .returned (.bool true) ∧ Below w'.heap.size w' w'' := fun v w' a b hv hK hb => ctp_b v PP (by omega) a b true hK w' (by
        rcases hv with rfl | rfl
        · exact hva2.to hb
        · exact hvb2.to hb)
      clear hva hva2 hvb2 hav hbv hent hent1 hent2 hT hT1 hT2 hb1 hb2 hbw1 hz1 hzw1 hz2 cN hkm hPL hPC hcm hb
      go_loopw [8, 9] (fun c i wx => ∃ ii N : Nat, ii ≤ m.length ∧ i = .int .i64 (ii : Int) ∧ c = .int .i64 (N : Int) ∧ N ≤ ii * 40 ∧ Hid (N = (prB m ii).length) ∧ Below W2.heap.size W2 wx) (fun _ i _ => m.length - (intOf i).toNat)
      case atStart => exact ⟨0, 0, by omega, rfl, rfl, by omega, (by show _ = _; simp [prB]), bBel⟩
      case round =>
        obtain ⟨ii, N, hil, rfl, rfl, hN40, hN, hbx⟩ := hrel
        have hszX := hbx.size
        by_cases hit : ii < m.length
        · go_wp2_with fail
          go_loopw [8, 10] (fun c k wy => ∃ kk N2 : Nat, kk ≤ ii ∧ k = .int .i64 (kk : Int) ∧ c = .int .i64 (N2 : Int) ∧ N2 ≤ ii * 40 + kk ∧ Hid (N2 = (prB m ii ++ fl m[ii] (m.take kk)).length) ∧ Below W2.heap.size W2 wy) (fun _ k _ => ii - (intOf k).toNat)
          case atStart => exact ⟨0, N, by omega, rfl, rfl, by omega, (by show _ = _; rw [hN.out]; simp [fl]), hbx⟩
          case round =>
            obtain ⟨kk, N2, hki, rfl, rfl, hN2, hNN, hby⟩ := hrel
            have hszY := hby.size
            by_cases hkt : kk < ii
            · have hkm2 : kk < m.length := by omega
              obtain ⟨g, o, hix, hc⟩ := hvm.ix ii hit
              obtain ⟨og, d0, d1, d2, d3, d4⟩ := hc _ hby
              obtain ⟨g2, o2, hix2, hc2⟩ := hvm.ix kk hkm2
              obtain ⟨og2, f0, f1, f2, f3, f4⟩ := hc2 _ hby
              have hst : Hid (fl m[ii] (m.take (kk + 1)) = fl m[ii] (m.take kk) ++ if Bx.ovl m[ii].2 m[kk].2 then [mm m[ii] m[kk]] else []) := by
                show _ = _
                rw [← fl_snoc, List.take_append_getElem]
              have hK : Hid (Bx.ovl m[ii].2 m[kk].2 = true → PP.contains (min m[ii].1 m[kk].1, max m[ii].1 m[kk].1) = true) := fun ho => by
                have h1 : mm m[ii] m[kk] ∈ PP := by
                  rw [← hPP.out, prP_mem hdm.out]
                  exact mm_mem (List.getElem_mem hit) (List.getElem_mem hkm2) (fun e => (List.pairwise_iff_getElem.1 hdm.out kk ii hkm2 hit hkt) e.symm) ho
                simpa [mm] using h1
              have hE : Hid (Bx.ovl m[ii].2 m[kk].2 = false → N2 = (prB m ii ++ fl m[ii] (m.take (kk + 1))).length) := fun ho => by
                rw [hst.out, ho, hNN.out]; simp
              have hF : Hid (Bx.ovl m[ii].2 m[kk].2 = true → N2 + 1 = (prB m ii ++ fl m[ii] (m.take (kk + 1))).length) := fun ho => by
                rw [hst.out, ho, hNN.out]; simp
                omega
              clear hc hc2 hst hNN
              obtain ⟨u, hu⟩ : ∃ u, m[ii] = u := ⟨_, rfl⟩
              obtain ⟨v, hv⟩ : ∃ v, m[kk] = v := ⟨_, rfl⟩
              have hu' : Hid (m[ii] = u) := hu
              rw [hu] at d0 d1 d2 d3 d4
              rw [hv] at f0 f1 f2 f3 f4
              have hK2 : Hid (Bx.ovl u.2 v.2 = true → PP.contains (min u.1 v.1, max u.1 v.1) = true) := by show _ → _; rw [← hu, ← hv]; exact hK.out
              have hE2 : Hid (Bx.ovl u.2 v.2 = false → N2 = (prB m ii ++ fl m[ii] (m.take (kk + 1))).length) := by show _ → _; rw [← hu, ← hv]; exact hE.out
              have hF2 : Hid (Bx.ovl u.2 v.2 = true → N2 + 1 = (prB m ii ++ fl m[ii] (m.take (kk + 1))).length) := by show _ → _; rw [← hu, ← hv]; exact hF.out
              clear hu hv hK hE hF hu'
              obtain ⟨i, x0, x1, x2, x3⟩ := u
              obtain ⟨j, y0, y1, y2, y3⟩ := v
              dsimp only at d0 d1 d2 d3 d4 f0 f1 f2 f3 f4 hK2 hE2 hF2
              cases hov : Bx.ovl ⟨x0, x1, x2, x3⟩ ⟨y0, y1, y2, y3⟩ with
              | false =>
                have ho : ovl8 x0 x1 x2 x3 y0 y1 y2 y3 = false := hov
                have hE3 : Hid (N2 = (prB m ii ++ fl m[ii] (m.take (kk + 1))).length) := hE2.out hov
                clear hE2 hF2 hK2 hov
                go_wp2_with fail
                refine wp_region_gw (by kernel_rfl) (by kernel_rfl) ?_
                repeat (go_big_quiet_step ((first | (go_at_call 20; with_reducible_and_instances exact gw_call (boolIs (xovl_b x0 x1 x2 x3 y0 y1 y2 y3 _) ho)))))
                refine wpQuiet_nil ?_
                intro w1 hw1
                obtain ⟨q, rfl⟩ := hw1
                go_wp2_with fail
                exact ⟨⟨kk + 1, N2, by omega, by go_num, rfl, by omega, hE3, bBel⟩, by (try go_num); simp [intOf]; (try omega)⟩
              | true =>
                have ho : ovl8 x0 x1 x2 x3 y0 y1 y2 y3 = true := hov
                have hF3 : Hid (N2 + 1 = (prB m ii ++ fl m[ii] (m.take (kk + 1))).length) := hF2.out hov
                have hK3 : Hid (PP.contains (min i j, max i j) = true) := hK2.out hov
                clear hE2 hF2 hK2 hov
                go_wp2_with fail
                refine wp_region_gw (by kernel_rfl) (by kernel_rfl) ?_
                repeat (go_big_quiet_step ((first | (go_at_call 20; with_reducible_and_instances exact gw_call (boolIs (xovl_b x0 x1 x2 x3 y0 y1 y2 y3 _) ho)))))
                refine wpQuiet_nil ?_
                intro w1 hw1
                obtain ⟨q, rfl⟩ := hw1
                go_wp2_with fail
                refine wp_region_gw (by kernel_rfl) (by kernel_rfl) ?_
                repeat (go_big_quiet_step ((first | (go_at_call 27; with_reducible_and_instances exact gw_call (cT _ _ i j (by first | exact .inl rfl | exact .inr rfl) hK3.out bBel)))))
                refine wpQuiet_nil ?_
                intro w1 hw1
                obtain ⟨q, rfl⟩ := hw1
                go_wp2_with fail
                exact ⟨⟨kk + 1, N2 + 1, by omega, by go_num, by go_num, by omega, hF3, bBel⟩, by (try go_num); simp [intOf]; (try omega)⟩
            · obtain rfl : kk = ii := by omega
              have hE3 : Hid (N2 = (prB m (kk + 1)).length) := by show _ = _; rw [prB_succ hit]; exact hNN.out
              clear hNN
              go_wp2_with fail
              exact ⟨⟨kk + 1, N2, by omega, by go_num, rfl, by omega, hE3, hby⟩, by (try go_num); simp [intOf]; (try omega)⟩
        · obtain rfl : ii = m.length := by omega
          obtain rfl : N = PP.length := by rw [hN.out, prB_all hdm.out, hPP.out]
          clear hN
          go_wp2_with (go_at_call 22; refine Calls.mono (gw_at (pex_b _)) ?_; rintro e w1 ⟨rfl, q, rfl⟩)
          go_ret
          exact ⟨rfl, Below.trans hbw2 (Below.mono (show Below W2.heap.size W2 _ from bBel) hzw2)⟩

end Go.Proofs.Ytfhhkabdeajieaa
