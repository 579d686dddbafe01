/- Chapter 21: the reference's MaxOverlap. -/
import Derived.Test.YtfhhkabdeajieaaSpJ
set_option linter.unusedVariables false
set_option linter.unusedSimpArgs false
namespace Go.Proofs.Ytfhhkabdeajieaa
open Go.RowKit Fx

theorem cntP_take {S : Bxs} {p : En → Bool} {k : Nat} (h : k < S.length) : (S.take (k + 1)).countP p = (S.take k).countP p + if p S[k] then 1 else 0 := by
  rw [← List.take_append_getElem h, List.countP_append]; simp [List.countP_cons]

set_option maxRecDepth 100000 in
set_option maxHeartbeats 8000000 in
theorem rmaxo_b (v : Value) (l : List En) (hl : l.length ≤ 1000) (N : Nat) (x : Int) (hN : rmx (gAt (srE (cnt l))) (xAt (srE (cnt l))) (srE (cnt l)).length = (N, x)) (w : World) (h : Vw5 25 w v l) : Calls Try.prog 13 #[v] w fun e w' => e = .returned (.tuple #[.int .i64 (N : Int), .int .i64 x]) ∧ Below w.heap.size w w' := by
  obtain ⟨S, hS⟩ : ∃ S, Hid (srE (cnt l) = S) := ⟨_, rfl⟩
  rw [hS.out] at hN
  have hN' : Hid (rmx (gAt S) (xAt S) S.length = (N, x)) := hN
  clear hN
  have hSl : S.length ≤ 1000 := by have h1 := hS.out; have h2 := srE_len (cnt_dst l); have h3 := cnt_len l; rw [← h1, h2]; omega
  go_enter Try.func13, Try.ntmps13
  go_wp2_with (go_at_call 10; refine Calls.mono (rsort_b v l hl _ h) ?_; rintro e W ⟨⟨sv, rfl, hsv⟩, hbW⟩; rw [hS.out] at hsv)
  have hszW := hbW.size
  have hvs := vw5_own u_re sz_re hsv
  have hlen := hvs.len
  clear hsv
  go_loopw [5, 6, 7] (fun p c i wr => ∃ k M : Nat, ∃ X : Int, k ≤ S.length ∧ i = .int .i64 (k : Int) ∧ p = .int .i64 (M : Int) ∧ c = .int .i64 X ∧ Hid (rmx (gAt S) (xAt S) k = (M, X)) ∧ Below W.heap.size W wr) (fun _ _ i _ => S.length - (intOf i).toNat)
  case atStart => exact ⟨0, 0, 0, by omega, rfl, rfl, rfl, rfl, Below.refl _ _⟩
  case round =>
    obtain ⟨k, M, X, hk, rfl, rfl, rfl, hK, hbR⟩ := hrel
    have hszR := hbR.size
    by_cases hlt : k < S.length
    · obtain ⟨g, o, hix, hc⟩ := hvs.ix k hlt
      obtain ⟨og, d0, d1, d2, d3, d4⟩ := hc wr hbR
      have hx := xAt_eq hlt
      obtain ⟨st, hst⟩ : ∃ st, Hid (xAt S k = st) := ⟨_, rfl⟩
      rw [hst.out] at hx
      rw [← hx] at d1
      have hrm : Hid (rmx (gAt S) (xAt S) (k + 1) = if M < gAt S k then (gAt S k, st) else (M, X)) := by
        show _ = _
        rw [rmx, hK.out, hst.out]
      have hg : Hid (gAt S k = S.countP fun e => decide (e.2.x0 ≤ st) && decide (st ≤ e.2.x1)) := by show _ = _; rw [← hst.out]; rfl
      obtain ⟨P, hP⟩ : ∃ P : En → Bool, Hid (P = fun e => decide (e.2.x0 ≤ st) && decide (st ≤ e.2.x1)) := ⟨_, rfl⟩
      rw [← hP.out] at hg
      clear hc hK hx d0 d2 d3 d4
      go_wp2_with fail
      go_loopw [9, 10] (fun c j wx => ∃ m n : Nat, m ≤ S.length ∧ j = .int .i64 (m : Int) ∧ c = .int .i64 (n : Int) ∧ n ≤ m ∧ Hid (n = (S.take m).countP P) ∧ Below W.heap.size W wx) (fun _ j _ => S.length - (intOf j).toNat)
      case atStart => exact ⟨0, 0, by omega, rfl, rfl, by omega, (by show _ = _; simp), hbR⟩
      case round =>
        obtain ⟨m, n, hm, rfl, rfl, hnm, hn, hbx⟩ := hrel
        have hszX := hbx.size
        by_cases hmt : m < S.length
        · obtain ⟨g2, o2, hix2, hc2⟩ := hvs.ix m hmt
          obtain ⟨og2, f0, f1, f2, f3, f4⟩ := hc2 _ hbx
          have hs2 : Hid ((S.take (m + 1)).countP P = (S.take m).countP P + if P S[m] then 1 else 0) := cntP_take hmt
          have hPm : Hid (P S[m] = (decide (S[m].2.x0 ≤ st) && decide (st ≤ S[m].2.x1))) := by show _ = _; rw [hP.out]
          clear hc2 f0 f2 f4
          generalize S[m] = e at *
          obtain ⟨ei, y0, y1, y2, y3⟩ := e
          dsimp only at f1 f3 hPm
          by_cases c1 : y0 ≤ st
          · by_cases c2 : st ≤ y2
            · have hn2 : Hid (n + 1 = (S.take (m + 1)).countP P) := by
                show _ = _
                rw [hs2.out, hPm.out, ← hn.out]; simp [c1, c2]
              clear hn hs2 hPm
              go_wp2_with fail
              exact ⟨⟨m + 1, n + 1, by omega, by go_num, by go_num, by omega, hn2, hbx⟩, by (try go_num); simp [intOf]; (try omega)⟩
            · have hn2 : Hid (n = (S.take (m + 1)).countP P) := by
                show _ = _
                rw [hs2.out, hPm.out, ← hn.out]; simp [c2]
              have c2b : decide (st ≤ y2) = false := by simpa using c2
              clear hn hs2 hPm
              go_wp2_with fail
              exact ⟨⟨m + 1, n, by omega, by go_num, rfl, by omega, hn2, hbx⟩, by (try go_num); simp [intOf]; (try omega)⟩
          · have hn2 : Hid (n = (S.take (m + 1)).countP P) := by
              show _ = _
              rw [hs2.out, hPm.out, ← hn.out]; simp [c1]
            have c1b : decide (y0 ≤ st) = false := by simpa using c1
            clear hn hs2 hPm
            go_wp2_with fail
            exact ⟨⟨m + 1, n, by omega, by go_num, rfl, by omega, hn2, hbx⟩, by (try go_num); simp [intOf]; (try omega)⟩
        · obtain rfl : m = S.length := by omega
          have hn2 : n = gAt S k := by have := hn.out; rw [List.take_length, ← hg.out] at this; exact this
          have hrm2 := hrm.out
          rw [← hn2] at hrm2
          by_cases hMn : M < n
          · have c1 : (n : Int) > (M : Int) := by omega
            rw [if_pos hMn] at hrm2
            have hr9 : Hid (rmx (gAt S) (xAt S) (k + 1) = (n, st)) := hrm2
            clear hrm2 hn2 hrm hn hg
            go_wp2_with fail
            exact ⟨⟨k + 1, n, st, by omega, by go_num, rfl, rfl, hr9, hbx⟩, by (try go_num); simp [intOf]; (try omega)⟩
          · have c1 : ¬ (n : Int) > (M : Int) := by omega
            rw [if_neg hMn] at hrm2
            have hr9 : Hid (rmx (gAt S) (xAt S) (k + 1) = (M, X)) := hrm2
            clear hrm2 hn2 hrm hn hg
            go_wp2_with fail
            exact ⟨⟨k + 1, M, X, by omega, by go_num, rfl, rfl, hr9, hbx⟩, by (try go_num); simp [intOf]; (try omega)⟩
    · obtain rfl : k = S.length := by omega
      obtain ⟨rfl, rfl⟩ : M = N ∧ X = x := by have h1 := hK.out; rw [hN'.out] at h1; simp only [Prod.mk.injEq] at h1; exact ⟨h1.1.symm, h1.2.symm⟩
      go_wp2_with fail
      go_ret2
      exact ⟨rfl, Below.trans hbW (hbR.mono hszW)⟩

end Go.Proofs.Ytfhhkabdeajieaa
