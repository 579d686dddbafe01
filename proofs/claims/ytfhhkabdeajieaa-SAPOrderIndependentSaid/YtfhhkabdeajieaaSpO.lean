/- Chapter 21: the walk of SAPOrderIndependent. -/
import Derived.Test.YtfhhkabdeajieaaSpX
import Derived.Test.YtfhhkabdeajieaaSpI
import Derived.Test.YtfhhkabdeajieaaSpH
set_option linter.unusedVariables false
set_option linter.unusedSimpArgs false
namespace Go.Proofs.Ytfhhkabdeajieaa
open Go.RowKit Fx

/-- The entries turned round by n places: the first i of them. -/
def rotT (l : List En) (n i : Nat) : List En := (List.range i).map fun j => l.getD ((j + n) % l.length) default
theorem hidOf {p : Prop} (h : p) : Hid p := h
theorem rotT_succ {l : List En} {n i : Nat} (h : (i + n) % l.length < l.length) : rotT l n (i + 1) = rotT l n i ++ [l[(i + n) % l.length]] := by
  unfold rotT
  rw [List.range_succ, List.map_append]
  simp [List.getD_eq_getElem?_getD, List.getElem?_eq_getElem h]
theorem rotT_len (l : List En) (n i : Nat) : (rotT l n i).length = i := by simp [rotT]
theorem rotT_perm (l : List En) (n : Nat) : (rotT l n l.length).Perm l := by
  rcases Nat.eq_zero_or_pos l.length with h0 | h0
  · have : l = [] := List.eq_nil_of_length_eq_zero h0
    subst this; simp [rotT]
  · have hr : n % l.length < l.length := Nat.mod_lt _ h0
    have e : rotT l n l.length = l.drop (n % l.length) ++ l.take (n % l.length) := by
      apply List.ext_getElem
      · rw [rotT_len]; simp; omega
      · intro i h1 h2
        rw [rotT_len] at h1
        simp only [rotT, List.getElem_map, List.getElem_range]
        have hm : (i + n) % l.length = if i < l.length - n % l.length then n % l.length + i else i - (l.length - n % l.length) := by
          have h3 : (i + n) % l.length = (i + n % l.length) % l.length := by rw [Nat.add_mod, Nat.mod_eq_of_lt h1]
          rw [h3]
          split
          · rw [Nat.mod_eq_of_lt (by omega), Nat.add_comm]
          · rw [Nat.mod_eq_sub_mod (by omega), Nat.mod_eq_of_lt (by omega)]; omega
        rw [hm]
        split
        · rename_i hlt
          rw [List.getElem_append_left (by rw [List.length_drop]; omega), List.getElem_drop, List.getD_eq_getElem?_getD, List.getElem?_eq_getElem (by omega)]; rfl
        · rename_i hlt
          rw [List.getElem_append_right (by rw [List.length_drop]; omega), List.getElem_take, List.getD_eq_getElem?_getD, List.getElem?_eq_getElem (by omega)]
          simp
    rw [e]
    exact List.perm_append_comm.trans (by rw [List.take_append_drop])
theorem prP_cnt_perm {l m : Bxs} (h : l.Perm m) (hd : Dst l) : prP (cnt m) = prP (cnt l) :=
  prP_eq (cnt_dst l) (prP_srt (cnt_dst m)) fun x => (prP_mem (cnt_dst m)).trans (InP.congr (fun e => (cnt_perm h hd).mem_iff.symm) x)
theorem rmx_le {f : Nat → Nat} {x : Nat → Int} {n b : Nat} (h : ∀ j, j < n → f j ≤ b) : (rmx f x n).1 ≤ b := by
  rcases (rmx_spec f x n).2 with ⟨h1, _⟩ | ⟨j, h1, h2, _⟩
  · omega
  · have := h j h1; omega
theorem Dst.take_succ {l : Bxs} {i : Nat} (h : Dst (l.take i)) (hi : i < l.length) (hn : ∀ j (hj : j < l.length), j < i → l[j].1 ≠ l[i].1) : Dst (l.take (i + 1)) := by
  rw [← List.take_append_getElem hi]
  refine List.pairwise_append.2 ⟨h, by simp, fun a ha b hb => ?_⟩
  simp at hb; subst hb
  obtain ⟨j, hj, rfl⟩ := List.getElem_of_mem ha
  rw [List.getElem_take]
  rw [List.length_take] at hj
  exact hn j (by omega) (by omega)
theorem Dst.at {l : Bxs} (h : Dst l) {i j : Nat} (hi : i < l.length) (hj : j < l.length) (e : l[i].1 = l[j].1) : i = j := by
  rcases Nat.lt_trichotomy i j with h1 | h1 | h1
  · exact (List.pairwise_iff_getElem.1 h i j hi hj h1 e).elim
  · exact h1
  · exact (List.pairwise_iff_getElem.1 h j i hj hi h1 e.symm).elim

set_option maxRecDepth 100000 in
set_option maxHeartbeats 16000000 in
theorem walk_SAPOrderIndependent (A : Option Addr) (cap : Nat) (l : List En) (n : Int) (hn : IntKind.u8.has n) (w : World) (ha : Enrs w A l) : Calls Try.prog 6 #[.slice A l.length cap, .int .u8 n] w fun e w' => e = .returned (.bool true) ∧ Below w.heap.size w w' := by
  by_cases h30 : l.length ≤ 30
  rotate_left
  · have h30' : (l.length : Int) > 30 := by omega
    go_enter Try.func6, Try.ntmps6
    go_wp2_with (go_at_call 8; refine Calls.mono (gw_at (example21_b _)) ?_; rintro e w1 ⟨rfl, q, rfl⟩)
    go_ret
    exact ⟨rfl, bBel⟩
  have h30' : ¬ (l.length : Int) > 30 := by omega
  have hn2 : 0 ≤ n ∧ n < 256 := by simp [IntKind.has, IntKind.min, IntKind.max, IntKind.signed, IntKind.bits] at hn; omega
  obtain ⟨N, rfl⟩ : ∃ N : Nat, n = (N : Int) := ⟨n.toNat, by omega⟩
  have hN : N < 256 := by omega
  have hwN : IntKind.i64.wrap (N : Int) = (N : Int) := by rw [IntKind.wrap_i64]; omega
  clear hn hn2
  have hk : Hid (∀ e ∈ l, i64k e.1) := ha.keys
  have hents := ha.ents
  clear ha
  obtain ⟨i0, hi, hz0, hz1, hz2⟩ := info_parts info_ent
  have hv : Vw5 22 w (.slice A l.length cap) l := vw5_ents u_se sz_se hents
  go_enter Try.func6, Try.ntmps6
  go_wp2_with fail
  go_loopw [5, 6] (fun c i wr => ∃ k : Nat, k ≤ l.length ∧ i = .int .i64 (k : Int) ∧ Hid (Dst (l.take k)) ∧ wr.ownsRow w.heap.size 33 5 c k (ev (rotT l N k)) ∧ Below w.heap.size w wr) (fun _ i _ => l.length - (intOf i).toNat)
  case atStart => exact ⟨0, by omega, rfl, (by show Dst _; simp [Dst]), World.ownsRow_nil _ _ _ _, Below.refl _ _⟩
  case round =>
    obtain ⟨k, hkl, rfl, hds, hown, hb⟩ := hrel
    have hszR := hb.size
    by_cases hlt : k < l.length
    · obtain ⟨b, off, rfl, hbl, hc0⟩ := ents_open hents (by omega)
      have hc := hidOf hc0
      clear hc0
      go_wp2_with fail
      generalize wr = V at *
      go_loopw [7] (fun j wx => ∃ m : Nat, m ≤ k ∧ j = .int .i64 (m : Int) ∧ Hid (∀ j (h : j < l.length), j < m → l[j].1 ≠ l[k].1) ∧ Below V.heap.size V wx) (fun j _ => k - (intOf j).toNat)
      case atStart => exact ⟨0, by omega, rfl, fun j _ h => by omega, Below.refl _ _⟩
      case round =>
        obtain ⟨m, hm, rfl, hno, hbx⟩ := hrel
        have hszX := hbx.size
        have hbw := Below.trans hb (hbx.mono hszR)
        have hszw := hbw.size
        by_cases hmt : m < k
        · have i1 : (m : Int) < (l.length : Int) := by omega
          obtain ⟨ob, d0, -, -, -, -⟩ := hc.out m (by omega) _ hbw
          obtain ⟨-, f0, -, -, -, -⟩ := hc.out k hlt _ hbw
          have hno2 : Hid (l[m].1 ≠ l[k].1 → ∀ j (h : j < l.length), j < m + 1 → l[j].1 ≠ l[k].1) := fun h2 j hj hjk => by
            rcases Nat.lt_or_eq_of_le (Nat.le_of_lt_succ hjk) with h3 | rfl
            · exact hno.out j hj h3
            · exact h2
          clear hno
          obtain ⟨x, hx'⟩ : ∃ x, l[m].1 = x := ⟨_, rfl⟩
          have hx : Hid (l[m].1 = x) := hx'
          obtain ⟨y, hy'⟩ : ∃ y, l[k].1 = y := ⟨_, rfl⟩
          have hy : Hid (l[k].1 = y) := hy'
          clear hx' hy'
          rw [hx.out] at d0
          rw [hy.out] at f0
          by_cases c : x = y
          · have c1 : (x == y) = true := by rw [beq_iff_eq]; exact c
            clear hno2 hx hy c
            go_wp2_with fail
            refine wp_region_gw (by kernel_rfl) (by kernel_rfl) ?_
            repeat (go_big_quiet_step ((first | (go_at_call 20; (first | (exact gw_call (boolIs (xovl_b _ _ _ _ _ _ _ _ _) (b := true) (by assumption))) | (exact gw_call (boolIs (xovl_b _ _ _ _ _ _ _ _ _) (b := false) (by assumption))) | (exact gw_call (xovl_b _ _ _ _ _ _ _ _ _)))))))
            refine wpQuiet_nil ?_
            intro w1 hw1
            obtain ⟨q, rfl⟩ := hw1
            go_wp2_with (go_at_call 8; refine Calls.mono (gw_at (example21_b _)) ?_; rintro e w1 ⟨rfl, q, rfl⟩)
            go_ret
            exact ⟨rfl, bBel⟩
          · have hn3 := hno2.out (by rw [hx.out, hy.out]; exact c)
            have hn4 : Hid (∀ j (h : j < l.length), j < m + 1 → l[j].1 ≠ l[k].1) := hn3
            have c1 : (x == y) = false := by rw [beq_eq_false_iff_ne]; exact c
            clear hno2 hx hy c hn3
            go_wp2_with fail
            refine wp_region_gw (by kernel_rfl) (by kernel_rfl) ?_
            repeat (go_big_quiet_step ((first | (go_at_call 20; (first | (exact gw_call (boolIs (xovl_b _ _ _ _ _ _ _ _ _) (b := true) (by assumption))) | (exact gw_call (boolIs (xovl_b _ _ _ _ _ _ _ _ _) (b := false) (by assumption))) | (exact gw_call (xovl_b _ _ _ _ _ _ _ _ _)))))))
            refine wpQuiet_nil ?_
            intro w1 hw1
            obtain ⟨q, rfl⟩ := hw1
            go_wp2_with fail
            exact ⟨⟨m + 1, by omega, by go_num, hn4, bBel⟩, by (try go_num); simp [intOf]; (try omega)⟩
        · obtain rfl : m = k := by omega
          have hds2 : Hid (Dst (l.take (m + 1))) := Dst.take_succ hds.out hlt hno.out
          have hmo : (m + N) % l.length < l.length := Nat.mod_lt _ (by omega)
          have hrs : Hid (rotT l N (m + 1) = rotT l N m ++ [l[(m + N) % l.length]]) := rotT_succ hmo
          obtain ⟨ob, d0, d1, d2, d3, d4⟩ := hc.out _ hmo _ hbw
          have hT : ((m : Int) + (N : Int)).tmod (l.length : Int) = (((m + N) % l.length : Nat) : Int) := by
            rw [← Int.natCast_add, Int.ofNat_tmod]
          have hT2 : ((m : Int) + (N : Int)) % (l.length : Int) = (((m + N) % l.length : Nat) : Int) := by
            rw [← Int.natCast_add]; rfl
          generalize l[(m + N) % l.length] = e at *
          obtain ⟨D, hD⟩ : ∃ D, Hid ((m + N) % l.length = D) := ⟨_, rfl⟩
          rw [hD.out] at hmo hT hT2 d0 d1 d2 d3 d4
          have i1 : (D : Int) < (l.length : Int) := by omega
          have i2 : (l.length : Int) ≠ 0 := by omega
          obtain ⟨ei, x0, x1, x2, x3⟩ := e
          dsimp only at d0 d1 d2 d3 d4
          have hownX := owns_below hown hbx
          clear hno hc
          go_wp2_with (at_builtin; refine wpList_app21 rfl _ _ 22 rfl w.heap.size 33 i0 (.agg #[.int .i64 0, .int .i64 0, .int .i64 0, .int .i64 0, .int .i64 0]) 5 40 (by kernel_rfl) hi hz0 hz1 hz2 rfl (by decide) _ _ _ rfl (owns_below hownX bBel) _ [.int .i64 ei, .int .i64 x0, .int .i64 x1, .int .i64 x2, .int .i64 x3] 33 rfl rfl bBkn (by intro u hu; simp at hu; rcases hu with rfl | rfl | rfl | rfl | rfl <;> rfl) (by unfold maxLen; omega) (by omega) (by first | (simp; done) | (simp; omega) | omega) ?_; intro v' w2 hown2 hb2 hg2 ho2)
          exact ⟨⟨m + 1, by omega, by go_num, hds2, by rw [hrs.out, ev_snoc]; exact hown2, Below.trans (Below.alloc hbw hszw _) hb2⟩, by (try go_num); simp [intOf]; (try omega)⟩
    · obtain rfl : k = l.length := by omega
      have hd := hds.out
      rw [List.take_length] at hd
      have hdl : Hid (Dst l) := hd
      clear hd hds
      obtain ⟨m, hm⟩ : ∃ m, Hid (rotT l N l.length = m) := ⟨_, rfl⟩
      have hml : m.length = l.length := by rw [← hm.out]; exact rotT_len _ _ _
      have hmp : Hid (l.Perm m) := by show List.Perm _ _; rw [← hm.out]; exact (rotT_perm l N).symm
      rw [hm.out] at hown
      have hmk : Hid (∀ e ∈ m, i64k e.1) := fun e he => hk.out e (hmp.out.mem_iff.2 he)
      obtain ⟨A2, cap2, rfl, -, -, -, hentm⟩ := owns_ents hown
      have hentl := hents.to hb
      obtain ⟨PP, hPP⟩ : ∃ PP, Hid (prP (cnt l) = PP) := ⟨_, rfl⟩
      have hPm : Hid (prP (cnt m) = PP) := by show _ = _; rw [prP_cnt_perm hmp.out hdl.out, hPP.out]
      obtain ⟨⟨M, x⟩, hMx⟩ : ∃ r, Hid (rmx (fAt (srE (cnt l))) (xAt (srE (cnt l))) (srE (cnt l)).length = r) := ⟨_, rfl⟩
      have hMm : Hid (rmx (fAt (srE (cnt m))) (xAt (srE (cnt m))) (srE (cnt m)).length = (M, x)) := by show _ = _; rw [← srE_cnt_perm hmp.out hdl.out]; exact hMx.out
      have hMl : M ≤ l.length := by
        have h1 : (rmx (fAt (srE (cnt l))) (xAt (srE (cnt l))) (srE (cnt l)).length).1 ≤ l.length := rmx_le fun j hj => by
          have h2 := srE_len (cnt_dst l); have h3 := cnt_len l
          unfold fAt; omega
        rw [hMx.out] at h1; exact h1
      have hMi : ¬ (M : Int) > (l.length : Int) := by omega
      have hMd : decide (l.length < M) = false := by simp; omega
      have hMd2 : decide ((l.length : Int) < (M : Int)) = false := by simp; omega
      have hPl : PP.length ≤ 1000 := by
        have h1 := (prA_perm (cnt_dst l)).length_eq
        have h2 := enu_len (cnt l) (cnt l).length
        have h3 := cnt_len l
        have h4 : (cnt l).length * (cnt l).length ≤ 30 * 30 := Nat.mul_le_mul (by omega) (by omega)
        rw [enu_all] at h2
        rw [hPP.out] at h1
        omega
      have cMm : ∀ w', Ents w' A2 m → Calls Try.prog 12 #[.slice A2 l.length cap2] w' fun e w'' => e = .returned (.tuple #[.int .i64 (M : Int), .int .i64 x]) ∧ Below w'.heap.size w' w'' := fun w' h => by
        have := maxo_b A2 cap2 m (by omega) hmk.out M x hMm.out w' h
        rw [hml] at this; exact this
      have cPm : ∀ w', Ents w' A2 m → Calls Try.prog 19 #[.slice A2 l.length cap2] w' fun e w'' => (∃ v, e = .returned v ∧ w''.ownsRow w'.heap.size 44 2 v PP.length (pv PP)) ∧ Below w'.heap.size w' w'' := fun w' h => by
        have := pairs21_b A2 cap2 m (by omega) hmk.out w' h
        rw [hml, hPm.out] at this; exact this
      clear hown
      go_wp2_with (first
        | (go_at_call 19; with_reducible_and_instances refine Calls.mono (pairs21_b A cap l (by omega) hk.out _ hentl) ?_; rw [hPP.out]; rintro e W1 ⟨⟨pv1, rfl, hp1⟩, hb1⟩; have hv1 := vw_own hp1; have hz1 := hb1.size; have hbw1 := Below.trans hb (hb1.mono hszR); have hentl1 := hentl.to hb1; have hentm1 := hentm.to hb1; have l1 := hv1.len)
        | (go_at_call 12; with_reducible_and_instances refine Calls.mono (gw_at (maxo_b A cap l (by omega) hk.out M x hMx.out _ hentl1)) ?_; rintro e w2 ⟨rfl, q2, rfl⟩)
        | (go_at_call 12; with_reducible_and_instances refine Calls.mono (gw_at (cMm _ (hentm1.to bBel))) ?_; rintro e w2 ⟨rfl, q3, rfl⟩)
        | (go_at_call 19; with_reducible_and_instances refine Calls.mono (cPm _ (hentm1.to bBel)) ?_; rintro e W4 ⟨⟨pv2, rfl, hp2⟩, hb4⟩; have hv2 := vw_own hp2; have hb14 : Below W1.heap.size W1 W4 := Below.trans (Below.trans (below_gw _ q2) (Below.mono (below_gw _ q3) (by simp))) (hb4.mono (by simp; omega)); have hv14 := hv1.to hb14; have hz4 := hb14.size)
        | (go_at_call 14; with_reducible_and_instances refine Calls.mono (eqp21_b _ _ PP PP _ hv14 hv2 true (by simp) (by omega)) ?_; rintro e W5 ⟨rfl, hb5⟩))
      have hb15 : Below W1.heap.size W1 W5 := Below.trans hb14 (hb5.mono hz4)
      have hbw5 : Below w.heap.size w W5 := Below.trans hbw1 (hb15.mono hbw1.size)
      have hv15 := hv1.to hb15
      have hz5 := hbw5.size
      clear hb14 hb5 hb4 hv2 hv14 hp1 hp2 hb1 hv1 cMm cPm hentl hentl1 hentm hentm1 hb15 hbw1 hz1 hz4 hMm hMx hPm hmk hm hmp hml
      have hPs : Hid (SrtP PP) := by show SrtP _; rw [← hPP.out]; exact prP_srt (cnt_dst l)
      have hPi : Hid (∀ t (h : t < PP.length), PP[t].1 < PP[t].2 ∧ ∃ j0 k0 : Nat, ∃ (h1 : j0 < l.length) (h2 : k0 < l.length), l[j0].1 = PP[t].1 ∧ l[k0].1 = PP[t].2 ∧ Bx.ovl l[j0].2 l[k0].2 = true) := fun t h => by
        have hm : PP[t] ∈ prP (cnt l) := by rw [hPP.out]; exact List.getElem_mem h
        obtain ⟨e, he, f, hf, hlt, ho, hx⟩ := (prP_mem (cnt_dst l)).1 hm
        obtain ⟨j0, h1, rfl⟩ := List.getElem_of_mem (cnt_mem e he)
        obtain ⟨k0, h2, rfl⟩ := List.getElem_of_mem (cnt_mem f hf)
        rw [hx]
        exact ⟨hlt, j0, k0, h1, h2, rfl, rfl, ho⟩
      go_loopw [13] (fun i wx => ∃ t : Nat, t ≤ PP.length ∧ i = .int .i64 (t : Int) ∧ Below W5.heap.size W5 wx) (fun i _ => PP.length - (intOf i).toNat)
      case atStart => exact ⟨0, by omega, rfl, Below.refl _ _⟩
      case round =>
        obtain ⟨t, ht, rfl, hbx⟩ := hrel
        have hszX := hbx.size
        by_cases htl : t < PP.length
        · obtain ⟨hab, j0, k0, hj0, hk0, ea, eb, ho⟩ := hPi.out t htl
          obtain ⟨g, o, hix, hcp⟩ := hv15.ix t htl
          obtain ⟨bl, off, rfl, hbl, hc0⟩ := ents_open hents (by omega)
          have hc := hidOf hc0
          have hcp' := hidOf hcp
          obtain ⟨⟨a, b⟩, hpe'⟩ : ∃ p, PP[t] = p := ⟨_, rfl⟩
          have hpe : Hid (PP[t] = (a, b)) := hpe'
          rw [hpe'] at hab ea eb
          dsimp only at hab ea eb
          have ea' : Hid (l[j0].1 = a) := ea
          have eb' : Hid (l[k0].1 = b) := eb
          have ho' : Hid (Bx.ovl l[j0].2 l[k0].2 = true) := ho
          clear hc0 hcp hpe' ea eb ho
          go_wp2_with fail
          go_loopw [14, 15] (fun c j wy => ∃ jj mN : Nat, jj ≤ l.length ∧ j = .int .i64 (jj : Int) ∧ c = .int .i64 (mN : Int) ∧ Hid (mN = if j0 < jj then 1 else 0) ∧ Below W5.heap.size W5 wy) (fun _ j _ => l.length - (intOf j).toNat)
          case atStart => exact ⟨0, 0, by omega, rfl, rfl, (by show _ = _; simp), hbx⟩
          case round =>
            obtain ⟨jj, mN, hjl, rfl, rfl, hmN, hby⟩ := hrel
            have hszY := hby.size
            by_cases hjt : jj < l.length
            · go_wp2_with fail
              go_loopw [14, 16] (fun c k wz => ∃ kk mM : Nat, kk ≤ l.length ∧ k = .int .i64 (kk : Int) ∧ c = .int .i64 (mM : Int) ∧ mM ≤ 2 ∧ Hid (mM = (if j0 < jj then 1 else 0) + (if jj = j0 ∧ k0 < kk then 1 else 0)) ∧ Below W5.heap.size W5 wz) (fun _ k _ => l.length - (intOf k).toNat)
              case atStart => exact ⟨0, mN, by omega, rfl, rfl, (by have := hmN.out; split at this <;> omega), (by show _ = _; rw [hmN.out]; simp), hby⟩
              case round =>
                obtain ⟨kk, mM, hkl2, rfl, rfl, hm2, hmM, hbz⟩ := hrel
                have hszZ := hbz.size
                have hbwz := Below.trans hbw5 (hbz.mono hz5)
                have hszwz := hbwz.size
                by_cases hkt : kk < l.length
                · obtain ⟨ob, d0, d1, d2, d3, d4⟩ := hc.out jj hjt _ hbwz
                  obtain ⟨-, f0, f1, f2, f3, f4⟩ := hc.out kk hkt _ hbwz
                  obtain ⟨og, p0, p1⟩ := hcp'.out _ hbz
                  rw [hpe.out] at p0 p1
                  dsimp only at p0 p1
                  have hx1 : Hid (l[jj].1 = a ↔ jj = j0) := ⟨fun e => hdl.out.at hjt hj0 (e.trans ea'.out.symm), fun e => by subst e; exact ea'.out⟩
                  have hx2 : Hid (l[kk].1 = b ↔ kk = k0) := ⟨fun e => hdl.out.at hkt hk0 (e.trans eb'.out.symm), fun e => by subst e; exact eb'.out⟩
                  have hx3 : Hid (jj = j0 → kk = k0 → Bx.ovl l[jj].2 l[kk].2 = true) := fun e1 e2 => by subst e1; subst e2; exact ho'.out
                  obtain ⟨u, hu⟩ : ∃ u, l[jj] = u := ⟨_, rfl⟩
                  obtain ⟨v, hv'⟩ : ∃ v, l[kk] = v := ⟨_, rfl⟩
                  rw [hu] at d0 d1 d2 d3 d4 hx1 hx3
                  rw [hv'] at f0 f1 f2 f3 f4 hx2 hx3
                  clear hu hv'
                  obtain ⟨ui, u0, u1, u2, u3⟩ := u
                  obtain ⟨vi, v0, v1, v2, v3⟩ := v
                  dsimp only at d0 d1 d2 d3 d4 f0 f1 f2 f3 f4 hx1 hx2
                  by_cases c1 : jj = j0
                  · have e1 : (ui == a) = true := by rw [beq_iff_eq]; exact hx1.out.2 c1
                    by_cases c2 : kk = k0
                    · have e2 : (vi == b) = true := by rw [beq_iff_eq]; exact hx2.out.2 c2
                      have ho : ovl8 u0 u1 u2 u3 v0 v1 v2 v3 = true := hx3.out c1 c2
                      have hm9 : Hid (mM + 1 = (if j0 < jj then 1 else 0) + (if jj = j0 ∧ k0 < kk + 1 then 1 else 0)) := by
                        show _ = _
                        rw [hmM.out, if_neg (by omega : ¬ (jj = j0 ∧ k0 < kk)), if_pos (by omega : jj = j0 ∧ k0 < kk + 1)]
                      have hm8 : mM + 1 ≤ 2 := by have := hm9.out; split at this <;> split at this <;> omega
                      clear hx1 hx2 hx3 hmM c1 c2
                      go_wp2_with fail
                      refine wp_region_gw (by kernel_rfl) (by kernel_rfl) ?_
                      repeat (go_big_quiet_step ((first | (go_at_call 20; with_reducible_and_instances exact gw_call (boolIs (xovl_b u0 u1 u2 u3 v0 v1 v2 v3 _) ho)))))
                      refine wpQuiet_nil ?_
                      intro w1 hw1
                      obtain ⟨q, rfl⟩ := hw1
                      go_wp2_with fail
                      exact ⟨⟨kk + 1, mM + 1, by omega, by go_num, by go_num, hm8, hm9, bBel⟩, by (try go_num); simp [intOf]; (try omega)⟩
                    · have e2 : (vi == b) = false := by rw [beq_eq_false_iff_ne]; exact fun e => c2 (hx2.out.1 e)
                      have hm9 : Hid (mM = (if j0 < jj then 1 else 0) + (if jj = j0 ∧ k0 < kk + 1 then 1 else 0)) := by
                        show _ = _
                        rw [hmM.out]
                        by_cases c3 : k0 < kk
                        · rw [if_pos (by omega : jj = j0 ∧ k0 < kk), if_pos (by omega : jj = j0 ∧ k0 < kk + 1)]
                        · rw [if_neg (by omega : ¬ (jj = j0 ∧ k0 < kk)), if_neg (by omega : ¬ (jj = j0 ∧ k0 < kk + 1))]
                      clear hx1 hx2 hx3 hmM c1 c2
                      go_wp2_with fail
                      refine wp_region_gw (by kernel_rfl) (by kernel_rfl) ?_
                      repeat (go_big_quiet_step ((first | (go_at_call 20; with_reducible_and_instances exact gw_call (xovl_b u0 u1 u2 u3 v0 v1 v2 v3 _)))))
                      refine wpQuiet_nil ?_
                      intro w1 hw1
                      obtain ⟨q, rfl⟩ := hw1
                      go_wp2_with fail
                      exact ⟨⟨kk + 1, mM, by omega, by go_num, rfl, hm2, hm9, bBel⟩, by (try go_num); simp [intOf]; (try omega)⟩
                  · have e1 : (ui == a) = false := by rw [beq_eq_false_iff_ne]; exact fun e => c1 (hx1.out.1 e)
                    have hm9 : Hid (mM = (if j0 < jj then 1 else 0) + (if jj = j0 ∧ k0 < kk + 1 then 1 else 0)) := by
                      show _ = _
                      rw [hmM.out, if_neg (by omega : ¬ (jj = j0 ∧ k0 < kk)), if_neg (by omega : ¬ (jj = j0 ∧ k0 < kk + 1))]
                    clear hx1 hx2 hx3 hmM c1
                    go_wp2_with fail
                    refine wp_region_gw (by kernel_rfl) (by kernel_rfl) ?_
                    repeat (go_big_quiet_step ((first | (go_at_call 20; with_reducible_and_instances exact gw_call (xovl_b u0 u1 u2 u3 v0 v1 v2 v3 _)))))
                    refine wpQuiet_nil ?_
                    intro w1 hw1
                    obtain ⟨q, rfl⟩ := hw1
                    go_wp2_with fail
                    exact ⟨⟨kk + 1, mM, by omega, by go_num, rfl, hm2, hm9, bBel⟩, by (try go_num); simp [intOf]; (try omega)⟩
                · obtain rfl : kk = l.length := by omega
                  have hm9 : Hid (mM = if j0 < jj + 1 then 1 else 0) := by
                    show _ = _
                    rw [hmM.out]
                    by_cases c1 : jj = j0
                    · rw [if_neg (by omega : ¬ j0 < jj), if_pos (by omega : jj = j0 ∧ k0 < l.length), if_pos (by omega)]
                    · rw [if_neg (by omega : ¬ (jj = j0 ∧ k0 < l.length))]
                      by_cases c2 : j0 < jj
                      · rw [if_pos c2, if_pos (by omega)]
                      · rw [if_neg c2, if_neg (by omega)]
                  clear hmM hmN
                  go_wp2_with fail
                  exact ⟨⟨jj + 1, mM, by omega, by go_num, rfl, hm9, hbz⟩, by (try go_num); simp [intOf]; (try omega)⟩
            · obtain rfl : jj = l.length := by omega
              obtain rfl : mN = 1 := by have := hmN.out; rw [if_pos hj0] at this; exact this
              obtain ⟨og, p0, p1⟩ := hcp'.out _ hby
              rw [hpe.out] at p0 p1
              dsimp only at p0 p1
              have hab' : ¬ a ≥ b := by omega
              have hab2 : decide (b ≤ a) = false := by simpa using hab
              clear hmN ea' eb' ho'
              by_cases t0 : 0 < t
              · obtain ⟨s, hs1, hs2⟩ : ∃ s, s + 1 ≤ t ∧ t ≤ s + 1 := ⟨t - 1, by omega, by omega⟩
                have hgt : (t : Int) > 0 := by omega
                have hws : IntKind.i64.wrap ((t : Int) - 1) = (s : Int) := by rw [IntKind.wrap_i64]; omega
                have hws2 : (t : Int) - 1 = (s : Int) := by omega
                obtain ⟨g2, o2, hix2, hcp2⟩ := hv15.ix s (by omega)
                obtain ⟨og2, p2, p3⟩ := hcp2 _ hby
                have hne : Hid (PP[s]'(by omega) ≠ (a, b)) := fun e => by
                  have h1 := List.pairwise_iff_getElem.1 hPs.out s t (by omega) htl (by omega)
                  rw [e, hpe.out] at h1
                  exact ltP_irr _ h1
                generalize PP[s]'(by omega) = u at *
                obtain ⟨ua, ub⟩ := u
                dsimp only at p2 p3
                have hq : ∀ W, (binOp .eql 44 (.agg #[.int .i64 ua, .int .i64 ub]) (.agg #[.int .i64 a, .int .i64 b])).run Try.prog W = .ok (.bool false) W := fun W => by rw [eql_pair]; simp; exact fun h1 h2 => hne.out (by rw [h1, h2])
                clear hcp2
                go_wp2_with fail
                refine wp_region_gw (by kernel_rfl) (by kernel_rfl) ?_
                repeat (go_big_quiet_step ((first | (go_at_call 20; (first | (exact gw_call (boolIs (xovl_b _ _ _ _ _ _ _ _ _) (b := true) (by assumption))) | (exact gw_call (boolIs (xovl_b _ _ _ _ _ _ _ _ _) (b := false) (by assumption))) | (exact gw_call (xovl_b _ _ _ _ _ _ _ _ _)))))))
                refine wpQuiet_nil ?_
                intro w1 hw1
                obtain ⟨q, rfl⟩ := hw1
                go_wp2_with fail
                exact ⟨⟨t + 1, by omega, by go_num, bBel⟩, by (try go_num); simp [intOf]; (try omega)⟩
              · have hgt : ¬ (t : Int) > 0 := by omega
                have hgt2 : decide (0 < t) = false := by simpa using t0
                have hgt3 : decide ((0 : Int) < (t : Int)) = false := by simpa using t0
                go_wp2_with fail
                refine wp_region_gw (by kernel_rfl) (by kernel_rfl) ?_
                repeat (go_big_quiet_step ((first | (go_at_call 20; (first | (exact gw_call (boolIs (xovl_b _ _ _ _ _ _ _ _ _) (b := true) (by assumption))) | (exact gw_call (boolIs (xovl_b _ _ _ _ _ _ _ _ _) (b := false) (by assumption))) | (exact gw_call (xovl_b _ _ _ _ _ _ _ _ _)))))))
                refine wpQuiet_nil ?_
                intro w1 hw1
                obtain ⟨q, rfl⟩ := hw1
                go_wp2_with fail
                exact ⟨⟨t + 1, by omega, by go_num, bBel⟩, by (try go_num); simp [intOf]; (try omega)⟩
        · obtain rfl : t = PP.length := by omega
          go_wp2_with (go_at_call 8; refine Calls.mono (gw_at (example21_b _)) ?_; rintro e w1 ⟨rfl, q, rfl⟩)
          go_ret
          exact ⟨rfl, Below.trans hbw5 (Below.trans hbx ((below_gw _ _).mono hszX) |>.mono hz5)⟩

end Go.Proofs.Ytfhhkabdeajieaa
