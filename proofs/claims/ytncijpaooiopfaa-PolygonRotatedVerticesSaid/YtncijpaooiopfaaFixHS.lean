/- Law of chapter 11: PolygonRotatedVertices. -/
import Derived.Test.YtncijpaooiopfaaFixHR
set_option linter.unusedVariables false
namespace Go.Proofs.Ytncijpaooiopfaa
open Go.RowKit Fx

theorem rev_take {ps : List (Int × Int)} {j : Nat} (h : j < ps.length) : ps.reverse.take (ps.length - (j + 1)) ++ [ps[j]] = ps.reverse.take (ps.length - j) := by
  rw [show ps.length - j = ps.length - (j + 1) + 1 from by omega, List.take_add_one, List.getElem?_eq_getElem (by simp; omega), List.getElem_reverse]
  have e : ps.length - 1 - (ps.length - (j + 1)) = j := by omega
  simp only [e]
  rfl

set_option maxRecDepth 100000 in
set_option maxHeartbeats 16000000 in
theorem walk_PolygonRotatedVertices (A : Option Addr) (cap : Nat) (ps : List (Int × Int)) (k : Int) (hk : IntKind.u8.has k) (w : World) (hp : Pts w A ps) (hl : ps.length ≤ cap) (hc : cap ≤ maxLen) (hA : A = none → cap = 0) : Calls Try.prog 7 #[.slice A ps.length cap, .int .u8 k] w fun e w' => e = .returned (.bool true) ∧ Below w.heap.size w w' := by
  have e0 := example11_b
  by_cases n20 : 20 < ps.length
  focus
    have i1 : (20 : Int) < (ps.length : Int) := by omega
    go_enter Try.func7, Try.ntmps7
    go_wp2_with (go_at_call 9; refine Calls.mono (gw_at (e0 _)) ?_; rintro e w1 ⟨rfl, q, rfl⟩)
    go_ret
    exact ⟨rfl, (by repeat (first | with_reducible exact Below.refl _ _ | with_reducible assumption | refine bgw ?_ (by first | (simp; done) | (simp; omega) | omega) _ | refine Below.setCell ?_ (by first | exact Nat.le_of_not_lt (by assumption) | (simp; done) | (simp; omega) | omega) _ | refine Below.alloc ?_ (by first | (simp; done) | (simp; omega) | omega) _ | refine Below.drew ?_))⟩
  have i1 : ¬ (20 : Int) < (ps.length : Int) := by omega
  by_cases n0 : ps.length = 0
  focus
    obtain rfl : ps = [] := List.eq_nil_of_length_eq_zero n0
    simp only [List.length_nil] at *
    go_enter Try.func7, Try.ntmps7
    go_wp2_with (go_at_call 9; refine Calls.mono (gw_at (e0 _)) ?_; rintro e w1 ⟨rfl, q, rfl⟩)
    go_ret
    exact ⟨rfl, (by repeat (first | with_reducible exact Below.refl _ _ | with_reducible assumption | refine bgw ?_ (by first | (simp; done) | (simp; omega) | omega) _ | refine Below.setCell ?_ (by first | exact Nat.le_of_not_lt (by assumption) | (simp; done) | (simp; omega) | omega) _ | refine Below.alloc ?_ (by first | (simp; done) | (simp; omega) | omega) _ | refine Below.drew ?_))⟩
  have b00 : ((ps.length : Int) == 0) = false := by rw [beq_eq_false_iff_ne]; omega
  have j0 : (0 : Int) < (ps.length : Int) := by omega
  have k0 : 0 ≤ k := by have := hk.1; simpa [IntKind.min, IntKind.bits, IntKind.signed] using this
  have hw : wrap64 k = k := by
    have := hk.2; simp [IntKind.max, IntKind.bits, IntKind.signed] at this
    unfold wrap64; omega
  obtain ⟨m, hm, em⟩ : ∃ m : Nat, m < ps.length ∧ (wrap64 k).tmod (ps.length : Int) = (m : Int) := by
    rw [hw, Int.tmod_eq_emod_of_nonneg k0]
    have g1 := Int.emod_nonneg k (b := (ps.length : Int)) (by omega)
    have g2 := Int.emod_lt_of_pos k (b := (ps.length : Int)) (by omega)
    exact ⟨(k % (ps.length : Int)).toNat, by omega, by omega⟩
  have m0 : (0 : Int) ≤ (m : Int) := by omega
  have m1 : (m : Int) ≤ (cap : Int) := by omega
  have m2 : (m : Int) ≤ (ps.length : Int) := by omega
  have hlT : (ps.take m).length = m := by rw [List.length_take]; omega
  have hlD : (ps.drop m).length = ps.length - m := List.length_drop
  have hpT : Pts w A (ps.take m) := hp.takeQ m
  have hpD : Pts w (if cap = m then A else A.map (·.add (m * 2))) (ps.drop m) := hp.dropQ (by omega) hl
  have hnD := nil_drop (m := m) hA
  rw [if_neg (show ¬ cap = m by omega)] at hpD hnD
  obtain ⟨i0, hi, hz0, hz1, hz2⟩ := info_parts info_vec
  have hrot : Hid (rot m ps = ps.drop m ++ ps.take m) := rfl
  have hrl := rot_len (m := m) (vs := ps) (by omega)
  clear hw k0 hk
  go_enter Try.func7, Try.ntmps7
  go_upto_region 6 with (at_builtin; refine wpList_appQ rfl _ _ 22 rfl w.heap.size 27 i0 (.agg #[.int .i64 0, .int .i64 0]) 16 Try.underlying22 hi hz0 hz1 hz2 rfl _ _ _ rfl (World.ownsRow_nil _ _ _ 2) _ _ _ (ps.drop m) rfl hnD hlD (Pts.to hpD (by repeat (first | with_reducible exact Below.refl _ _ | with_reducible assumption | refine bgw ?_ (by first | (simp; done) | (simp; omega) | omega) _ | refine Below.setCell ?_ (by first | exact Nat.le_of_not_lt (by assumption) | (simp; done) | (simp; omega) | omega) _ | refine Below.alloc ?_ (by first | (simp; done) | (simp; omega) | omega) _ | refine Below.drew ?_))) (by unfold maxLen; omega) (by omega) (by first | (simp; done) | (simp; omega) | omega) ?_; intro v2 w2 hown2 hb2)
  have hbW2 : Below w.heap.size w w2 := by first | exact hb2 | exact Below.trans (by repeat (first | with_reducible exact Below.refl _ _ | with_reducible assumption | refine bgw ?_ (by first | (simp; done) | (simp; omega) | omega) _ | refine Below.setCell ?_ (by first | exact Nat.le_of_not_lt (by assumption) | (simp; done) | (simp; omega) | omega) _ | refine Below.alloc ?_ (by first | (simp; done) | (simp; omega) | omega) _ | refine Below.drew ?_)) hb2
  have hz2' := hbW2.size
  go_upto_region 7 with (at_builtin; refine wpList_appQ rfl _ _ 22 rfl w.heap.size 27 i0 (.agg #[.int .i64 0, .int .i64 0]) 16 Try.underlying22 hi hz0 hz1 hz2 rfl _ _ _ rfl (owns_below hown2 (by repeat (first | with_reducible exact Below.refl _ _ | with_reducible assumption | refine bgw ?_ (by first | (simp; done) | (simp; omega) | omega) _ | refine Below.setCell ?_ (by first | exact Nat.le_of_not_lt (by assumption) | (simp; done) | (simp; omega) | omega) _ | refine Below.alloc ?_ (by first | (simp; done) | (simp; omega) | omega) _ | refine Below.drew ?_))) _ _ _ (ps.take m) rfl hA hlT (Pts.to hpT (by repeat (first | with_reducible exact Below.refl _ _ | with_reducible assumption | refine bgw ?_ (by first | (simp; done) | (simp; omega) | omega) _ | refine Below.setCell ?_ (by first | exact Nat.le_of_not_lt (by assumption) | (simp; done) | (simp; omega) | omega) _ | refine Below.alloc ?_ (by first | (simp; done) | (simp; omega) | omega) _ | refine Below.drew ?_))) (by unfold maxLen; omega) (by omega) (by first | (simp; done) | (simp; omega) | omega) ?_; intro v3 w3 hown3 hb3)
  have hbW3 : Below w.heap.size w w3 := Below.trans hbW2 hb3
  have hz3' := hbW3.size
  have hown5 : w3.ownsRow w.heap.size 27 2 v3 (0 + (ps.length - m) + m) (pv (rot m ps)) := by have := hown3; rw [List.nil_append] at this; rw [hrot.out, pv_append]; exact this
  obtain ⟨A3, c3, rfl, -, hle3, hmx3, hP3⟩ := owns_pts hown5
  clear hown2 hown3 hown5 hb2 hb3 hbW2 hz2' hrot hpT hpD hlT hlD hnD
  go_wp2_with fail
  generalize Option.map (fun x => x.add (m * 2)) A = AD at *
  go_loopw [7, 8] (fun o i wr => ∃ (j : Nat) (z : Int), j ≤ ps.length ∧ i = .int .i64 z ∧ z = (j : Int) - 1 ∧ wr.ownsRow w3.heap.size 27 2 o (ps.length - j) (pv (ps.reverse.take (ps.length - j))) ∧ Below w3.heap.size w3 wr)
    (fun _ i _ => (intOf i + 1).toNat)
  case atStart => exact ⟨ps.length, _, by omega, rfl, by go_num, by rw [Nat.sub_self]; exact World.ownsRow_nil _ _ _ 2, Below.refl _ _⟩
  case round =>
    obtain ⟨j, z, hj, rfl, hzj, hown, hbR⟩ := hrel
    have hszR := hbR.size
    have hbWR : Below w.heap.size w wr := Below.trans hbW3 (hbR.mono hz3')
    by_cases hj0 : 1 ≤ j
    · obtain ⟨j', rfl⟩ : ∃ j', j = j' + 1 := ⟨j - 1, by omega⟩
      obtain rfl : z = (j' : Int) := by omega
      have q0 : (0 : Int) ≤ (j' : Int) := by omega
      have q1 : (j' : Int) < (ps.length : Int) := by omega
      obtain ⟨b, off, hAe, hc1⟩ := pts_open0 (Pts.to hp hbWR) (by omega)
      subst hAe
      obtain ⟨d0, d1⟩ := hc1 j' (by omega)
      have ob := older_of_cell d0
      have hrv : Hid (pv (ps.reverse.take (ps.length - (j' + 1))) ++ [.int .i64 ps[j'].1, .int .i64 ps[j'].2] = pv (ps.reverse.take (ps.length - j'))) := by
        show _ = _
        rw [← rev_take (show j' < ps.length by omega), pv_append]; rfl
      have hnl : ps.length - (j' + 1) + 1 = ps.length - j' := by omega
      clear hc1 hzj
      generalize ps[j'].1 = x at *
      generalize ps[j'].2 = y at *
      go_wp2_with (at_builtin; refine wpList_app2 rfl _ _ 22 rfl w3.heap.size 27 i0 (.agg #[.int .i64 0, .int .i64 0]) 16 Try.underlying22 hi hz0 hz1 hz2 rfl _ _ _ rfl (owns_below hown (by repeat (first | with_reducible exact Below.refl _ _ | with_reducible assumption | refine bgw ?_ (by first | (simp; done) | (simp; omega) | omega) _ | refine Below.setCell ?_ (by first | exact Nat.le_of_not_lt (by assumption) | (simp; done) | (simp; omega) | omega) _ | refine Below.alloc ?_ (by first | (simp; done) | (simp; omega) | omega) _ | refine Below.drew ?_))) _ (.int .i64 x) (.int .i64 y) 27 rfl (by repeat (first | with_reducible exact blk_new _ _ _ | ((with_reducible refine blk_at ?_); (simp; done)) | with_reducible apply blk_alloc | with_reducible apply blk_gw | with_reducible apply blk_drew)) rfl rfl (by unfold maxLen; omega) (by omega) (by first | (simp; omega) | omega) ?_; intro v' w2 hown2 hb2 hg2 ho2)
      exact ⟨⟨j', (j' : Int) - 1, by omega, by go_num, rfl, by rw [← hrv.out, ← hnl]; exact hown2, Below.trans hbR (Below.trans (by repeat (first | with_reducible exact Below.refl _ _ | with_reducible assumption | refine bgw ?_ (by first | (simp; done) | (simp; omega) | omega) _ | refine Below.setCell ?_ (by first | exact Nat.le_of_not_lt (by assumption) | (simp; done) | (simp; omega) | omega) _ | refine Below.alloc ?_ (by first | (simp; done) | (simp; omega) | omega) _ | refine Below.drew ?_)) hb2)⟩, by (try go_num); simp [intOf]; (try omega)⟩
    · obtain rfl : j = 0 := by omega
      have hz0' : ¬ (0 : Int) ≤ z := by omega
      rw [Nat.sub_zero] at hown
      rw [List.take_of_length_le (by simp)] at hown
      obtain ⟨A5, c5, rfl, -, hle5, hmx5, hP5⟩ := owns_pts hown
      have hPv : Pts wr A ps := Pts.to hp hbWR
      have hPr : Pts wr A3 (rot m ps) := Pts.to hP3 hbR
      have hszW := hbWR.size
      have cV : ∀ w', Pts w' A ps → Calls Try.prog 13 #[.slice A ps.length cap] w' fun e w'' => e = .returned (.bool (cvx ps)) ∧ Below w'.heap.size w' w'' := fun w' h => xconv_b A cap ps (by omega) w' h
      have cR : ∀ w', Pts w' A3 (rot m ps) → Calls Try.prog 13 #[.slice A3 ps.length c3] w' fun e w'' => e = .returned (.bool (cvx ps)) ∧ Below w'.heap.size w' w'' := fun w' h => by
        have := xconv_b A3 c3 (rot m ps) (by omega) w' h; rw [cvx_rot (by omega), hrl] at this; exact this
      have cS : ∀ w', Pts w' A ps → Calls Try.prog 19 #[.slice A ps.length cap] w' fun e w'' => e = .returned (.int .i64 (shortP ps)) ∧ Below w'.heap.size w' w'' := fun w' h => xshort_b A cap ps (by omega) w' h
      have cT : ∀ w', Pts w' A3 (rot m ps) → Calls Try.prog 19 #[.slice A3 ps.length c3] w' fun e w'' => e = .returned (.int .i64 (shortP ps)) ∧ Below w'.heap.size w' w'' := fun w' h => by
        have := xshort_b A3 c3 (rot m ps) (by omega) w' h; rw [shortP_rot (by omega), hrl] at this; exact this
      generalize shortP ps = S at *
      clear hp hP3 hbR hown hszR hz3' hbW3
      by_cases hcv : cvxP ps
      rotate_left
      · have hf := cvx_no hcv
        have cA : ∀ w', Pts w' A ps → Calls Try.prog 15 #[.slice A ps.length cap] w' fun e w'' => e = .returned (.int .i64 0) ∧ Below w'.heap.size w' w'' := fun w' h => by
          have := xarea_b A cap ps (by omega) w' h; rw [show areaP ps = 0 from by unfold areaP; rw [if_neg (by rw [hf]; decide)]] at this; exact this
        have cZ : ∀ w', Pts w' A ps → Calls Try.prog 17 #[.slice A ps.length cap] w' fun e w'' => e = .returned (.agg #[.int .i64 0, .int .i64 0]) ∧ Below w'.heap.size w' w'' := fun w' h => by
          have := xcen_b A cap ps (by omega) w' h; rw [show cenP ps = (0, 0) from by unfold cenP; rw [if_neg (by rw [hf]; decide)]] at this; exact this
        rw [hf] at cV cR
        clear hrl hcv hf hP5
        generalize rot m ps = R at *
        generalize hVV : ps.reverse = V at *
        clear hVV
        go_wp2_with (first
          | (go_at_call 13; (with_reducible show Calls _ _ #[.slice A _ _] _ _); refine Calls.mono (gw_at (cV _ (Pts.to hPv (by repeat (first | with_reducible exact Below.refl _ _ | with_reducible assumption | refine bgw ?_ (by first | (simp; done) | (simp; omega) | omega) _ | refine Below.setCell ?_ (by first | exact Nat.le_of_not_lt (by assumption) | (simp; done) | (simp; omega) | omega) _ | refine Below.alloc ?_ (by first | (simp; done) | (simp; omega) | omega) _ | refine Below.drew ?_))))) ?_; rintro e w1 ⟨rfl, q, rfl⟩)
          | (go_at_call 13; (with_reducible show Calls _ _ #[.slice A3 _ _] _ _); refine Calls.mono (gw_at (cR _ (Pts.to hPr (by repeat (first | with_reducible exact Below.refl _ _ | with_reducible assumption | refine bgw ?_ (by first | (simp; done) | (simp; omega) | omega) _ | refine Below.setCell ?_ (by first | exact Nat.le_of_not_lt (by assumption) | (simp; done) | (simp; omega) | omega) _ | refine Below.alloc ?_ (by first | (simp; done) | (simp; omega) | omega) _ | refine Below.drew ?_))))) ?_; rintro e w1 ⟨rfl, q, rfl⟩)
          | (go_at_call 19; (with_reducible show Calls _ _ #[.slice A _ _] _ _); refine Calls.mono (gw_at (cS _ (Pts.to hPv (by repeat (first | with_reducible exact Below.refl _ _ | with_reducible assumption | refine bgw ?_ (by first | (simp; done) | (simp; omega) | omega) _ | refine Below.setCell ?_ (by first | exact Nat.le_of_not_lt (by assumption) | (simp; done) | (simp; omega) | omega) _ | refine Below.alloc ?_ (by first | (simp; done) | (simp; omega) | omega) _ | refine Below.drew ?_))))) ?_; rintro e w1 ⟨rfl, q, rfl⟩)
          | (go_at_call 19; (with_reducible show Calls _ _ #[.slice A3 _ _] _ _); refine Calls.mono (gw_at (cT _ (Pts.to hPr (by repeat (first | with_reducible exact Below.refl _ _ | with_reducible assumption | refine bgw ?_ (by first | (simp; done) | (simp; omega) | omega) _ | refine Below.setCell ?_ (by first | exact Nat.le_of_not_lt (by assumption) | (simp; done) | (simp; omega) | omega) _ | refine Below.alloc ?_ (by first | (simp; done) | (simp; omega) | omega) _ | refine Below.drew ?_))))) ?_; rintro e w1 ⟨rfl, q, rfl⟩)
          | (go_at_call 15; refine Calls.mono (gw_at (cA _ (Pts.to hPv (by repeat (first | with_reducible exact Below.refl _ _ | with_reducible assumption | refine bgw ?_ (by first | (simp; done) | (simp; omega) | omega) _ | refine Below.setCell ?_ (by first | exact Nat.le_of_not_lt (by assumption) | (simp; done) | (simp; omega) | omega) _ | refine Below.alloc ?_ (by first | (simp; done) | (simp; omega) | omega) _ | refine Below.drew ?_))))) ?_; rintro e w1 ⟨rfl, q, rfl⟩)
          | (go_at_call 17; refine Calls.mono (gw_at (cZ _ (Pts.to hPv (by repeat (first | with_reducible exact Below.refl _ _ | with_reducible assumption | refine bgw ?_ (by first | (simp; done) | (simp; omega) | omega) _ | refine Below.setCell ?_ (by first | exact Nat.le_of_not_lt (by assumption) | (simp; done) | (simp; omega) | omega) _ | refine Below.alloc ?_ (by first | (simp; done) | (simp; omega) | omega) _ | refine Below.drew ?_))))) ?_; rintro e w1 ⟨rfl, q, rfl⟩)
          | (go_at_call 9; refine Calls.mono (gw_at (e0 _)) ?_; rintro e w1 ⟨rfl, q, rfl⟩))
        go_ret
        exact ⟨rfl, Below.trans hbWR (by repeat (first | with_reducible exact Below.refl _ _ | with_reducible assumption | refine bgw ?_ (by first | (simp; done) | (simp; omega) | omega) _ | refine Below.setCell ?_ (by first | exact Nat.le_of_not_lt (by assumption) | (simp; done) | (simp; omega) | omega) _ | refine Below.alloc ?_ (by first | (simp; done) | (simp; omega) | omega) _ | refine Below.drew ?_))⟩
      have hv := cvx_rev hcv
      have ht := cvx_iff.2 hcv
      obtain ⟨hHl, hHr⟩ := cvx_hull_rot hcv hm
      have cN : ∀ w', Pts w' A5 ps.reverse → Calls Try.prog 13 #[.slice A5 ps.reverse.length c5] w' fun e w'' => e = .returned (.bool false) ∧ Below w'.heap.size w' w'' := fun w' h => by
        have := xconv_b A5 c5 ps.reverse (by rw [List.length_reverse]; omega) w' h; rw [hv] at this; exact this
      have cH := fun w' h => xhull_b A cap ps (by omega) w' h
      have cC : ∀ j (h : j < ps.length) w', Pts w' A ps → Calls Try.prog 12 #[.slice A ps.length cap, .agg #[.int .i64 ps[j].1, .int .i64 ps[j].2]] w' fun e w'' => e = .returned (.bool true) ∧ Below w'.heap.size w' w'' := fun j hj w' h => by
        have := xcont_b A cap ps ps[j].1 ps[j].2 (by omega) w' h; rw [cvx_cont hcv (List.getElem_mem hj)] at this; exact this
      have cE : ∀ A1 c1 w', Pts w' A1 (hullP ps) → Pts w' A3 (rot m ps) → Calls Try.prog 11 #[.slice A1 (hullP ps).length c1, .slice A3 ps.length c3] w' fun e w'' => e = .returned (.bool (decide (hullP ps = rot m ps))) ∧ Below w'.heap.size w' w'' := fun A1 c1 w' h1 h2 => by
        have := req_b A1 A3 c1 c3 (hullP ps) (rot m ps) (by omega) (by omega) w' h1 h2; rw [hrl] at this; exact this
      have h0H : 0 < (hullP ps).length := by omega
      have h0R : 0 < (rot m ps).length := by omega
      have hne : Hid (¬ hullP ps = rot m ps → ¬ ((hullP ps)[0].1 = (rot m ps)[0].1 ∧ (hullP ps)[0].2 = (rot m ps)[0].2)) := fun h e => by
        have h1 := hHr.resolve_left h
        rw [hp_lt h0H, hp_lt h0R] at h1
        exact h1 (Prod.ext e.1 e.2)
      have l1 : (((hullP ps).length : Int) == (ps.length : Int)) = true := by rw [beq_iff_eq]; omega
      have lH : (0 : Int) < ((hullP ps).length : Int) := by omega
      rw [ht] at cV cR
      clear hrl hcv hv ht hHl hHr
      generalize hullP ps = H at *
      generalize rot m ps = R at *
      generalize hVV : ps.reverse = V at *
      clear hVV
      go_upto_region 16 with (first
        | (go_at_call 13; (with_reducible show Calls _ _ #[.slice A _ _] _ _); refine Calls.mono (gw_at (cV _ (Pts.to hPv (by repeat (first | with_reducible exact Below.refl _ _ | with_reducible assumption | refine bgw ?_ (by first | (simp; done) | (simp; omega) | omega) _ | refine Below.setCell ?_ (by first | exact Nat.le_of_not_lt (by assumption) | (simp; done) | (simp; omega) | omega) _ | refine Below.alloc ?_ (by first | (simp; done) | (simp; omega) | omega) _ | refine Below.drew ?_))))) ?_; rintro e w1 ⟨rfl, q, rfl⟩)
        | (go_at_call 13; (with_reducible show Calls _ _ #[.slice A3 _ _] _ _); refine Calls.mono (gw_at (cR _ (Pts.to hPr (by repeat (first | with_reducible exact Below.refl _ _ | with_reducible assumption | refine bgw ?_ (by first | (simp; done) | (simp; omega) | omega) _ | refine Below.setCell ?_ (by first | exact Nat.le_of_not_lt (by assumption) | (simp; done) | (simp; omega) | omega) _ | refine Below.alloc ?_ (by first | (simp; done) | (simp; omega) | omega) _ | refine Below.drew ?_))))) ?_; rintro e w1 ⟨rfl, q, rfl⟩)
        | (go_at_call 19; (with_reducible show Calls _ _ #[.slice A _ _] _ _); refine Calls.mono (gw_at (cS _ (Pts.to hPv (by repeat (first | with_reducible exact Below.refl _ _ | with_reducible assumption | refine bgw ?_ (by first | (simp; done) | (simp; omega) | omega) _ | refine Below.setCell ?_ (by first | exact Nat.le_of_not_lt (by assumption) | (simp; done) | (simp; omega) | omega) _ | refine Below.alloc ?_ (by first | (simp; done) | (simp; omega) | omega) _ | refine Below.drew ?_))))) ?_; rintro e w1 ⟨rfl, q, rfl⟩)
        | (go_at_call 19; (with_reducible show Calls _ _ #[.slice A3 _ _] _ _); refine Calls.mono (gw_at (cT _ (Pts.to hPr (by repeat (first | with_reducible exact Below.refl _ _ | with_reducible assumption | refine bgw ?_ (by first | (simp; done) | (simp; omega) | omega) _ | refine Below.setCell ?_ (by first | exact Nat.le_of_not_lt (by assumption) | (simp; done) | (simp; omega) | omega) _ | refine Below.alloc ?_ (by first | (simp; done) | (simp; omega) | omega) _ | refine Below.drew ?_))))) ?_; rintro e w1 ⟨rfl, q, rfl⟩)
        | (go_at_call 10; refine Calls.mono (cH _ (Pts.to hPv (by repeat (first | with_reducible exact Below.refl _ _ | with_reducible assumption | refine bgw ?_ (by first | (simp; done) | (simp; omega) | omega) _ | refine Below.setCell ?_ (by first | exact Nat.le_of_not_lt (by assumption) | (simp; done) | (simp; omega) | omega) _ | refine Below.alloc ?_ (by first | (simp; done) | (simp; omega) | omega) _ | refine Below.drew ?_)))) ?_; rintro e w1 ⟨⟨A1, cap1, rfl, h11, h12, h13⟩, hb1⟩; obtain ⟨q1, rfl⟩ := gw_of_below hb1; clear hb1))
      refine wp_named ?_
      intro W hW
      have hbW : Below w.heap.size w W := by rw [hW]; exact Below.trans hbWR (by repeat (first | with_reducible exact Below.refl _ _ | with_reducible assumption | refine bgw ?_ (by first | (simp; done) | (simp; omega) | omega) _ | refine Below.setCell ?_ (by first | exact Nat.le_of_not_lt (by assumption) | (simp; done) | (simp; omega) | omega) _ | refine Below.alloc ?_ (by first | (simp; done) | (simp; omega) | omega) _ | refine Below.drew ?_))
      have hH : Pts W A1 H := by rw [hW]; exact Pts.to h13 (by repeat (first | with_reducible exact Below.refl _ _ | with_reducible assumption | refine bgw ?_ (by first | (simp; done) | (simp; omega) | omega) _ | refine Below.setCell ?_ (by first | exact Nat.le_of_not_lt (by assumption) | (simp; done) | (simp; omega) | omega) _ | refine Below.alloc ?_ (by first | (simp; done) | (simp; omega) | omega) _ | refine Below.drew ?_))
      have hP : Pts W A ps := by rw [hW]; exact Pts.to hPv (by repeat (first | with_reducible exact Below.refl _ _ | with_reducible assumption | refine bgw ?_ (by first | (simp; done) | (simp; omega) | omega) _ | refine Below.setCell ?_ (by first | exact Nat.le_of_not_lt (by assumption) | (simp; done) | (simp; omega) | omega) _ | refine Below.alloc ?_ (by first | (simp; done) | (simp; omega) | omega) _ | refine Below.drew ?_))
      have hR : Pts W A3 R := by rw [hW]; exact Pts.to hPr (by repeat (first | with_reducible exact Below.refl _ _ | with_reducible assumption | refine bgw ?_ (by first | (simp; done) | (simp; omega) | omega) _ | refine Below.setCell ?_ (by first | exact Nat.le_of_not_lt (by assumption) | (simp; done) | (simp; omega) | omega) _ | refine Below.alloc ?_ (by first | (simp; done) | (simp; omega) | omega) _ | refine Below.drew ?_))
      have hV : Pts W A5 V := by rw [hW]; exact Pts.to hP5 (by repeat (first | with_reducible exact Below.refl _ _ | with_reducible assumption | refine bgw ?_ (by first | (simp; done) | (simp; omega) | omega) _ | refine Below.setCell ?_ (by first | exact Nat.le_of_not_lt (by assumption) | (simp; done) | (simp; omega) | omega) _ | refine Below.alloc ?_ (by first | (simp; done) | (simp; omega) | omega) _ | refine Below.drew ?_))
      clear hW h13 hPv hPr hP5 cV cR cS cT cH hbWR hszW
      have hszW := hbW.size
      go_wp2_with fail
      go_loopw [10] (fun i wr => ∃ k : Nat, k ≤ ps.length ∧ i = .int .i64 (k : Int) ∧ ∃ p, wr = gw W p)
        (fun i _ => (ps.length - intOf i).toNat)
      case atStart => exact ⟨0, by omega, rfl, ⟨⟨W.drawn, #[]⟩, (gw_zero W).symm⟩⟩
      case round =>
        obtain ⟨k, hk, rfl, p, rfl⟩ := hrel
        by_cases hlt : k < ps.length
        · have j0 : (0 : Int) ≤ (k : Int) := by omega
          have j1 : (k : Int) < (ps.length : Int) := by omega
          obtain ⟨b2, off2, hA2, hc2⟩ := pts_open hP (by omega)
          subst hA2
          obtain ⟨f0, f1⟩ := hc2 p k hlt
          have ob := older_of_cell f0
          have cM := cC k hlt
          clear cC hc2
          generalize ps[k].1 = x at *
          generalize ps[k].2 = y at *
          go_wp2_with (go_at_call 12; refine Calls.mono (gw_at (cM _ (Pts.to hP (by repeat (first | with_reducible exact Below.refl _ _ | with_reducible assumption | refine bgw ?_ (by first | (simp; done) | (simp; omega) | omega) _ | refine Below.setCell ?_ (by first | exact Nat.le_of_not_lt (by assumption) | (simp; done) | (simp; omega) | omega) _ | refine Below.alloc ?_ (by first | (simp; done) | (simp; omega) | omega) _ | refine Below.drew ?_))))) ?_; rintro e w1 ⟨rfl, q, rfl⟩)
          exact ⟨⟨k + 1, by omega, by go_num, gw_of_below (by repeat (first | with_reducible exact Below.refl _ _ | with_reducible assumption | refine bgw ?_ (by first | (simp; done) | (simp; omega) | omega) _ | refine Below.setCell ?_ (by first | exact Nat.le_of_not_lt (by assumption) | (simp; done) | (simp; omega) | omega) _ | refine Below.alloc ?_ (by first | (simp; done) | (simp; omega) | omega) _ | refine Below.drew ?_))⟩, by (try go_num); simp [intOf]; (try omega)⟩
        · obtain rfl : k = ps.length := by omega
          have j1 : ¬ (ps.length : Int) < (ps.length : Int) := by omega
          obtain ⟨b1, off1, hA1, hc1⟩ := pts_open hH h0H
          obtain ⟨b3, off3, hA3, hc3⟩ := pts_open hR h0R
          clear cC
          obtain ⟨d0, d1⟩ := hc1 p 0 h0H
          obtain ⟨g0, g1⟩ := hc3 p 0 h0R
          simp only [Nat.zero_mul, Nat.add_zero] at d0 d1 g0 g1
          have o1 := older_of_cell d0
          have o3 := older_of_cell g0
          clear hc1 hc3
          subst hA1 hA3
          by_cases hHR : H = R
          · rw [decide_eq_true hHR] at cE
            clear hHR hne d0 d1 g0 g1 o1 o3
            go_wp2_with fail
            refine wp_region_gw (by kernel_rfl) (by kernel_rfl) ?_
            repeat (go_big_quiet_step (first | (go_at_call 13; exact gw_call (cN _ (Pts.to hV (by repeat (first | with_reducible exact Below.refl _ _ | with_reducible assumption | refine bgw ?_ (by first | (simp; done) | (simp; omega) | omega) _ | refine Below.setCell ?_ (by first | exact Nat.le_of_not_lt (by assumption) | (simp; done) | (simp; omega) | omega) _ | refine Below.alloc ?_ (by first | (simp; done) | (simp; omega) | omega) _ | refine Below.drew ?_))))) | (go_at_call 11; exact gw_call (cE _ _ _ (Pts.to hH (by repeat (first | with_reducible exact Below.refl _ _ | with_reducible assumption | refine bgw ?_ (by first | (simp; done) | (simp; omega) | omega) _ | refine Below.setCell ?_ (by first | exact Nat.le_of_not_lt (by assumption) | (simp; done) | (simp; omega) | omega) _ | refine Below.alloc ?_ (by first | (simp; done) | (simp; omega) | omega) _ | refine Below.drew ?_))) (Pts.to hR (by repeat (first | with_reducible exact Below.refl _ _ | with_reducible assumption | refine bgw ?_ (by first | (simp; done) | (simp; omega) | omega) _ | refine Below.setCell ?_ (by first | exact Nat.le_of_not_lt (by assumption) | (simp; done) | (simp; omega) | omega) _ | refine Below.alloc ?_ (by first | (simp; done) | (simp; omega) | omega) _ | refine Below.drew ?_))))) | (go_at_call 9; exact gw_call (e0 _))))
            refine wpQuiet_nil ?_
            intro w1 hw1
            obtain ⟨q, rfl⟩ := hw1
            go_wp2_with fail
            go_ret
            exact ⟨rfl, Below.trans hbW (by repeat (first | with_reducible exact Below.refl _ _ | with_reducible assumption | refine bgw ?_ (by first | (simp; done) | (simp; omega) | omega) _ | refine Below.setCell ?_ (by first | exact Nat.le_of_not_lt (by assumption) | (simp; done) | (simp; omega) | omega) _ | refine Below.alloc ?_ (by first | (simp; done) | (simp; omega) | omega) _ | refine Below.drew ?_))⟩
          · rw [decide_eq_false hHR] at cE
            have hn := hne.out hHR
            clear hHR hne
            generalize H[0].1 = x at *
            generalize H[0].2 = y at *
            generalize R[0].1 = x' at *
            generalize R[0].2 = y' at *
            by_cases c1 : x = x'
            · have b1 : (x == x') = true := by rw [beq_iff_eq]; exact c1
              have b2 : (y == y') = false := by rw [beq_eq_false_iff_ne]; exact fun h => hn ⟨c1, h⟩
              clear hn c1
              go_wp2_with fail
              refine wp_region_gw (by kernel_rfl) (by kernel_rfl) ?_
              repeat (go_big_quiet_step (first | (go_at_call 13; exact gw_call (cN _ (Pts.to hV (by repeat (first | with_reducible exact Below.refl _ _ | with_reducible assumption | refine bgw ?_ (by first | (simp; done) | (simp; omega) | omega) _ | refine Below.setCell ?_ (by first | exact Nat.le_of_not_lt (by assumption) | (simp; done) | (simp; omega) | omega) _ | refine Below.alloc ?_ (by first | (simp; done) | (simp; omega) | omega) _ | refine Below.drew ?_))))) | (go_at_call 11; exact gw_call (cE _ _ _ (Pts.to hH (by repeat (first | with_reducible exact Below.refl _ _ | with_reducible assumption | refine bgw ?_ (by first | (simp; done) | (simp; omega) | omega) _ | refine Below.setCell ?_ (by first | exact Nat.le_of_not_lt (by assumption) | (simp; done) | (simp; omega) | omega) _ | refine Below.alloc ?_ (by first | (simp; done) | (simp; omega) | omega) _ | refine Below.drew ?_))) (Pts.to hR (by repeat (first | with_reducible exact Below.refl _ _ | with_reducible assumption | refine bgw ?_ (by first | (simp; done) | (simp; omega) | omega) _ | refine Below.setCell ?_ (by first | exact Nat.le_of_not_lt (by assumption) | (simp; done) | (simp; omega) | omega) _ | refine Below.alloc ?_ (by first | (simp; done) | (simp; omega) | omega) _ | refine Below.drew ?_))))) | (go_at_call 9; exact gw_call (e0 _))))
              refine wpQuiet_nil ?_
              intro w1 hw1
              obtain ⟨q, rfl⟩ := hw1
              go_wp2_with fail
              go_ret
              exact ⟨rfl, Below.trans hbW (by repeat (first | with_reducible exact Below.refl _ _ | with_reducible assumption | refine bgw ?_ (by first | (simp; done) | (simp; omega) | omega) _ | refine Below.setCell ?_ (by first | exact Nat.le_of_not_lt (by assumption) | (simp; done) | (simp; omega) | omega) _ | refine Below.alloc ?_ (by first | (simp; done) | (simp; omega) | omega) _ | refine Below.drew ?_))⟩
            · have b1 : (x == x') = false := by rw [beq_eq_false_iff_ne]; exact c1
              clear hn c1
              go_wp2_with fail
              refine wp_region_gw (by kernel_rfl) (by kernel_rfl) ?_
              repeat (go_big_quiet_step (first | (go_at_call 13; exact gw_call (cN _ (Pts.to hV (by repeat (first | with_reducible exact Below.refl _ _ | with_reducible assumption | refine bgw ?_ (by first | (simp; done) | (simp; omega) | omega) _ | refine Below.setCell ?_ (by first | exact Nat.le_of_not_lt (by assumption) | (simp; done) | (simp; omega) | omega) _ | refine Below.alloc ?_ (by first | (simp; done) | (simp; omega) | omega) _ | refine Below.drew ?_))))) | (go_at_call 11; exact gw_call (cE _ _ _ (Pts.to hH (by repeat (first | with_reducible exact Below.refl _ _ | with_reducible assumption | refine bgw ?_ (by first | (simp; done) | (simp; omega) | omega) _ | refine Below.setCell ?_ (by first | exact Nat.le_of_not_lt (by assumption) | (simp; done) | (simp; omega) | omega) _ | refine Below.alloc ?_ (by first | (simp; done) | (simp; omega) | omega) _ | refine Below.drew ?_))) (Pts.to hR (by repeat (first | with_reducible exact Below.refl _ _ | with_reducible assumption | refine bgw ?_ (by first | (simp; done) | (simp; omega) | omega) _ | refine Below.setCell ?_ (by first | exact Nat.le_of_not_lt (by assumption) | (simp; done) | (simp; omega) | omega) _ | refine Below.alloc ?_ (by first | (simp; done) | (simp; omega) | omega) _ | refine Below.drew ?_))))) | (go_at_call 9; exact gw_call (e0 _))))
              refine wpQuiet_nil ?_
              intro w1 hw1
              obtain ⟨q, rfl⟩ := hw1
              go_wp2_with fail
              go_ret
              exact ⟨rfl, Below.trans hbW (by repeat (first | with_reducible exact Below.refl _ _ | with_reducible assumption | refine bgw ?_ (by first | (simp; done) | (simp; omega) | omega) _ | refine Below.setCell ?_ (by first | exact Nat.le_of_not_lt (by assumption) | (simp; done) | (simp; omega) | omega) _ | refine Below.alloc ?_ (by first | (simp; done) | (simp; omega) | omega) _ | refine Below.drew ?_))⟩

end Go.Proofs.Ytncijpaooiopfaa
