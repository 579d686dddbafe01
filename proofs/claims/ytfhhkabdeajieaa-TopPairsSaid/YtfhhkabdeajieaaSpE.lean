/- Chapter 21, the landed code: sortedEnds, MaxOverlap. -/
import Derived.Test.YtfhhkabdeajieaaSpR
import Derived.Deep.DeepCutAuto
set_option linter.unusedVariables false
set_option linter.unusedSimpArgs false
namespace Go.Proofs.Ytfhhkabdeajieaa
open Go.RowKit Fx

theorem info_int21 : (Try.prog.info? 3).map (fun i => (i.zero, i.size, i.bytes)) = some (some (.int .i64 0), 1, 8) := by kernel_rfl
/-- Where the intervals end, sorted. -/
def endS (S : Bxs) : List Int := (S.map fun e => e.2.x1).mergeSort fun x y => decide (x ≤ y)
theorem endS_len (S : Bxs) : (endS S).length = S.length := by unfold endS; rw [List.length_mergeSort, List.length_map]
theorem endS_cnt (S : Bxs) (x : Int) : (endS S).countP (fun t => decide (t < x)) = endd S x := by
  unfold endS endd
  rw [(List.mergeSort_perm _ _).countP_eq, List.countP_map]
  rfl
theorem endS_at (S : Bxs) (x : Int) {i : Nat} (h : i < (endS S).length) : i < endd S x ↔ (endS S)[i] < x := by
  have hs : (endS S).Pairwise fun a b => a ≤ b := by
    have := List.pairwise_mergeSort (le := fun x y : Int => decide (x ≤ y)) (fun a b c h1 h2 => by simp only [decide_eq_true_eq] at *; omega) (fun a b => by simp only [Bool.or_eq_true, decide_eq_true_eq]; omega) (S.map fun e => e.2.x1)
    exact this.imp fun {a b} h => by simpa using h
  rw [← endS_cnt, cnt_pre (p := fun t => decide (t < x)) (hs.imp fun {a b} h => by simp only [decide_eq_true_eq]; omega) i h]
  simp
theorem endd_mono {S : Bxs} {x y : Int} (h : x ≤ y) : endd S x ≤ endd S y := List.countP_mono_left fun e _ h1 => by simp only [decide_eq_true_eq] at *; omega

set_option maxRecDepth 100000 in
set_option maxHeartbeats 4000000 in
theorem sends_b (B : Nat) (sv : Value) (S : Bxs) (hn : S.length ≤ 100000) (w : World) (hsv : w.ownsRow B 33 5 sv S.length (ev S)) : Calls Try.prog 33 #[sv] w fun e w' => (∃ v, e = .returned v ∧ w'.ownsRow w.heap.size 3 1 v S.length (iv (endS S))) ∧ Below w.heap.size w w' := by
  obtain ⟨i0, hi, hz0, hz1, hz2⟩ := info_parts info_int21
  have hlen := fun ty W' => row_len u_se hsv ty W'
  go_enter Try.func33, Try.ntmps33
  go_wp2_with fail
  go_loopw [3, 8] (fun c i wr => ∃ k : Nat, k ≤ S.length ∧ i = .int .i64 (k : Int) ∧ wr.ownsRow w.heap.size 3 1 c k (iv ((S.take k).map fun e => e.2.x1)) ∧ Below w.heap.size w wr) (fun _ i _ => S.length - (intOf i).toNat)
  case atStart => exact ⟨0, by omega, rfl, World.ownsRow_nil _ _ _ _, Below.refl _ _⟩
  case round =>
    obtain ⟨k, hk, rfl, hown, hbR⟩ := hrel
    have hszR := hbR.size
    by_cases hlt : k < S.length
    · obtain ⟨g, hg, hix, hc⟩ := ents_ix u_se sz_se hsv hlt
      obtain ⟨ob, d0, d1, d2, d3, d4⟩ := hc wr hbR
      have hst : Hid ((S.take (k + 1)).map (fun e => e.2.x1) = (S.take k).map (fun e => e.2.x1) ++ [S[k].2.x1]) := by show _ = _; rw [← List.take_append_getElem hlt, List.map_append]; rfl
      clear hc
      generalize S[k] = e at *
      obtain ⟨ei, e0, e1, e2, e3⟩ := e
      dsimp only at d0 d1 d2 d3 d4 hst
      go_wp2_with (at_builtin; refine wpList_app21 rfl _ _ 63 rfl w.heap.size 3 i0 (.int .i64 0) 1 8 (by kernel_rfl) hi hz0 hz1 hz2 rfl (by decide) _ _ _ rfl (owns_below hown bBel) _ [.int .i64 e2] 3 rfl rfl bBkn (by intro u hu; simp at hu; rw [hu]; rfl) (by unfold maxLen; omega) (by omega) (by first | (simp; omega) | omega) ?_; intro v' w2 hown2 hb2 hg2 ho2)
      have hb3 : Below wr.heap.size wr ((wr.alloc (.cells #[.int .i64 ei, .int .i64 e0, .int .i64 e1, .int .i64 e2, .int .i64 e3] 33)).alloc (.cells #[.int .i64 e2] 3)) := bBel
      refine ⟨⟨k + 1, by omega, by go_num, ?_, Below.trans (Below.trans hbR (hb3.mono hszR)) hb2⟩, by (try go_num); simp [intOf]; (try omega)⟩
      rw [hst.out]
      simpa [iv] using hown2
    · obtain rfl : k = S.length := by omega
      rw [List.take_length] at hown
      have hl2 : (S.map fun e => e.2.x1).length = S.length := List.length_map _
      have hown3 : Hid (wr.ownsRow w.heap.size 3 1 u3 (S.map fun e => e.2.x1).length (iv (S.map fun e => e.2.x1))) := by rw [hl2]; exact hown
      clear hown
      go_wp2_with (go_at_call 53; refine Calls.mono (xsort_own w.heap.size _ (S.map fun e => e.2.x1) _ (by rw [hl2]; omega) hown3.out) ?_; rintro e w1 ⟨rfl, hown1, hb1⟩)
      go_ret
      rw [hl2] at hown1
      exact ⟨⟨_, rfl, hown1⟩, Below.trans hbR hb1⟩

set_option maxRecDepth 100000 in
set_option maxHeartbeats 8000000 in
theorem maxo_b (A : Option Addr) (cap : Nat) (l : List En) (hl : l.length ≤ 1000) (hk64 : ∀ e ∈ l, i64k e.1) (N : Nat) (x : Int) (hN : rmx (fAt (srE (cnt l))) (xAt (srE (cnt l))) (srE (cnt l)).length = (N, x)) (w : World) (ha : Ents w A l) : Calls Try.prog 12 #[.slice A l.length cap] w fun e w' => e = .returned (.tuple #[.int .i64 (N : Int), .int .i64 x]) ∧ Below w.heap.size w w' := by
  have hk64' : Hid (∀ e ∈ l, i64k e.1) := hk64
  clear hk64
  obtain ⟨S, hS⟩ : ∃ S, Hid (srE (cnt l) = S) := ⟨_, rfl⟩
  rw [hS.out] at hN
  have hN' : Hid (rmx (fAt S) (xAt S) S.length = (N, x)) := hN
  clear hN
  have hSl : S.length ≤ 1000 := by have h1 := hS.out; have h2 := srE_len (cnt_dst l); have h3 := cnt_len l; rw [← h1, h2]; omega
  have hSrt : Hid (S.Pairwise ltE) := by show _; rw [← hS.out]; exact srE_srt (cnt_dst l)
  have hSv : Hid (∀ e ∈ S, e.2.x0 ≤ e.2.x1) := fun e he => by
    rw [← hS.out] at he
    exact (Bx.val_iff.1 (cnt_vals _ ((srE_perm (cnt_dst l)).mem_iff.1 he))).1
  have hTl := endS_len S
  obtain ⟨T, hT⟩ : ∃ T, Hid (endS S = T) := ⟨_, rfl⟩
  rw [hT.out] at hTl
  go_enter Try.func12, Try.ntmps12
  go_wp2_with (first | (go_at_call 9; refine Calls.mono (sort21_b A cap l (by omega) hk64'.out _ (ha.to bBel)) ?_; rintro e W ⟨⟨sv, rfl, hsv⟩, hbW⟩; rw [hS.out] at hsv; have hlen := fun ty W' => row_len u_se hsv ty W') | (go_at_call 33; refine Calls.mono (sends_b _ sv S (by omega) _ hsv) ?_; rintro e W2 ⟨⟨tv, rfl, htv⟩, hbW2⟩; rw [hT.out] at htv))
  have hszW := hbW.size
  have hbw := Below.trans hbW (hbW2.mono hszW)
  have hsv2 := owns_below hsv hbW2
  have htv2 : W2.ownsRow W.heap.size 3 1 tv T.length (iv T) := by rw [hTl]; exact htv
  clear hbW hbW2 hsv htv hS
  go_loopw [6, 7, 8, 19] (fun p c d i wr => ∃ k K M : Nat, ∃ X : Int, k ≤ S.length ∧ i = .int .i64 (k : Int) ∧ d = .int .i64 (K : Int) ∧ p = .int .i64 (M : Int) ∧ c = .int .i64 X ∧ Hid (rmx (fAt S) (xAt S) k = (M, X) ∧ ∀ j, k ≤ j → j < S.length → K ≤ endd S (xAt S j)) ∧ Below W2.heap.size W2 wr) (fun _ _ _ i _ => S.length - (intOf i).toNat)
  case atStart => exact ⟨0, 0, 0, 0, by omega, rfl, rfl, rfl, rfl, ⟨rfl, fun j _ _ => by omega⟩, Below.refl _ _⟩
  case round =>
    obtain ⟨k, K, M, X, hk, rfl, rfl, rfl, rfl, hK, hbR⟩ := hrel
    have hszR := hbR.size
    by_cases hlt : k < S.length
    · obtain ⟨g, hg, hix, hc⟩ := ents_ix u_se sz_se hsv2 hlt
      obtain ⟨ob, d0, d1, d2, d3, d4⟩ := hc wr hbR
      have hx := xAt_eq hlt
      have hel := endd_le hSrt.out hSv.out hlt
      have hKe := hK.out.2 k (by omega) hlt
      have hEn : Hid (∀ i (h : i < T.length), i < endd S (xAt S k) ↔ T[i] < xAt S k) := fun i h => by
        have h1 := hT.out
        subst h1
        exact endS_at S _ h
      have hfk : Hid (fAt S k = k + 1 - endd S (xAt S k)) := rfl
      have hmono : Hid (∀ j, k ≤ j → j < S.length → endd S (xAt S k) ≤ endd S (xAt S j)) := fun j h1 h2 => endd_mono (x_mono hSrt.out h1 h2)
      have hxk : Hid (xAt S k = xAt S k) := rfl
      obtain ⟨st, hst⟩ : ∃ st, Hid (xAt S k = st) := ⟨_, rfl⟩
      rw [hst.out] at hx hel hKe hEn hfk hmono
      rw [← hx] at d1
      have hrm : Hid (rmx (fAt S) (xAt S) (k + 1) = if M < fAt S k then (fAt S k, st) else (M, X)) := by
        show _ = _
        rw [rmx, hK.out.1, hst.out]
      obtain ⟨E, hE⟩ : ∃ E, Hid (endd S st = E) := ⟨_, rfl⟩
      rw [hE.out] at hel hKe hEn hfk hmono
      obtain ⟨F, hF⟩ : ∃ F, Hid (fAt S k = F) := ⟨_, rfl⟩
      rw [hF.out] at hrm hfk
      clear hc hK hx hxk
      generalize S[k].1 = ei at *
      generalize S[k].2.y0 = e1 at *
      generalize S[k].2.x1 = e2 at *
      generalize S[k].2.y1 = e3 at *
      go_wp2_with fail
      go_loopw [8] (fun d wx => ∃ K : Nat, d = .int .i64 (K : Int) ∧ K ≤ E ∧ Below W2.heap.size W2 wx) (fun d _ => E - (intOf d).toNat)
      case atStart => exact ⟨K, rfl, hKe, Below.trans hbR bBel⟩
      case round =>
        obtain ⟨K', rfl, hKE, hbX⟩ := hrel
        have hKT : K' < T.length := by omega
        obtain ⟨g2, hg2, hix2, hc2⟩ := ints_ix htv2 hKT
        obtain ⟨ob2, t0⟩ := hc2 _ hbX
        have hd := hEn.out K' hKT
        generalize T[K'] = tt at *
        by_cases c : tt < st
        · have hlt2 := hd.2 c
          clear hd hc2
          go_wp2_with fail
          exact ⟨⟨K' + 1, by go_num, by omega, hbX⟩, by (try go_num); simp [intOf]; (try omega)⟩
        · obtain rfl : K' = E := by
            rcases Nat.lt_or_ge K' E with h | h
            · exact (c (hd.1 h)).elim
            · omega
          clear hd hc2
          have hFi : (F : Int) = (k : Int) + 1 - (K' : Int) := by have := hfk.out; omega
          have hFh : Hid ((k : Int) + 1 - (K' : Int) = (F : Int)) := hFi.symm
          by_cases hMF : M < F
          · have c1 : (k : Int) + 1 - (K' : Int) > (M : Int) := by omega
            have hr2 : Hid (rmx (fAt S) (xAt S) (k + 1) = (F, st)) := by show _ = _; rw [hrm.out, if_pos hMF]
            clear hrm hFi
            go_wp2_with fail
            refine ⟨⟨k + 1, K', F, st, by omega, by go_num, rfl, ?_, rfl, ⟨hr2.out, fun j h1 h2 => hmono.out j (by omega) h2⟩, hbX⟩, by (try go_num); simp [intOf]; (try omega)⟩
            rw [hFh.out]
          · have c1 : ¬ (k : Int) + 1 - (K' : Int) > (M : Int) := by omega
            have hr2 : Hid (rmx (fAt S) (xAt S) (k + 1) = (M, X)) := by show _ = _; rw [hrm.out, if_neg hMF]
            clear hrm hFi
            go_wp2_with fail
            exact ⟨⟨k + 1, K', M, X, by omega, by go_num, rfl, rfl, rfl, ⟨hr2.out, fun j h1 h2 => hmono.out j (by omega) h2⟩, hbX⟩, by (try go_num); simp [intOf]; (try omega)⟩
    · obtain rfl : k = S.length := by omega
      obtain ⟨rfl, rfl⟩ : M = N ∧ X = x := by have h1 := hK.out.1; rw [hN'.out] at h1; simp only [Prod.mk.injEq] at h1; exact ⟨h1.1.symm, h1.2.symm⟩
      go_wp2_with fail
      go_ret2
      exact ⟨rfl, Below.trans hbw (hbR.mono (by have := hbw.size; omega))⟩

end Go.Proofs.Ytfhhkabdeajieaa
