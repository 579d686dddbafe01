/- Laws of chapter 11: PolygonHull. -/
import Derived.Test.YtncijpaooiopfaaFixHM
set_option linter.unusedVariables false
namespace Go.Proofs.Ytncijpaooiopfaa
open Go.RowKit Fx

set_option maxRecDepth 100000 in
set_option maxHeartbeats 16000000 in
theorem walk_PolygonHull (A : Option Addr) (cap : Nat) (ps : List (Int × Int)) (w : World) (hp : Pts w A ps) (hl : ps.length ≤ cap) (hc : cap ≤ maxLen) : Calls Try.prog 3 #[.slice A ps.length cap] w fun e w' => e = .returned (.bool true) ∧ Below w.heap.size w w' := by
  have e0 := example11_b
  by_cases n64 : 64 < ps.length
  focus
    have i1 : (64 : Int) < (ps.length : Int) := by omega
    go_enter Try.func3, Try.ntmps3
    go_wp2_with (go_at_call 9; refine Calls.mono (gw_at (e0 _)) ?_; rintro e w1 ⟨rfl, q, rfl⟩)
    go_ret
    exact ⟨rfl, (by repeat (first | with_reducible exact Below.refl _ _ | with_reducible assumption | refine bgw ?_ (by first | (simp; done) | (simp; omega) | omega) _ | refine Below.setCell ?_ (by first | exact Nat.le_of_not_lt (by assumption) | (simp; done) | (simp; omega) | omega) _ | refine Below.alloc ?_ (by first | (simp; done) | (simp; omega) | omega) _ | refine Below.drew ?_))⟩
  have i1 : ¬ (64 : Int) < (ps.length : Int) := by omega
  have cX := fun w' h => xhull_b A cap ps (by omega) w' h
  have hlen := hullP_len ps
  have cX2 : ∀ A1 c1 w', (hullP ps).length ≤ c1 → Pts w' A1 (hullP ps) → Calls Try.prog 10 #[.slice A1 (hullP ps).length c1] w' (HullR w' (hullP ps)) := fun A1 c1 w' hk1 h => by
    have := xhull_b A1 c1 (hullP ps) (by omega) w' h; rw [hullP_idem] at this; exact this
  have cE : ∀ A1 c1 A2 c2 w', Pts w' A1 (hullP ps) → Pts w' A2 (hullP ps) → Calls Try.prog 11 #[.slice A1 (hullP ps).length c1, .slice A2 (hullP ps).length c2] w' fun e w'' => e = .returned (.bool true) ∧ Below w'.heap.size w' w'' := fun A1 c1 A2 c2 w' h1 h2 => by
    have := req_b A1 A2 c1 c2 (hullP ps) (hullP ps) (by omega) (by omega) w' h1 h2; rw [decide_eq_true rfl] at this; exact this
  have hmem : Hid (∀ k (h : k < (hullP ps).length), ∃ j, ∃ h' : j < ps.length, ps[j] = (hullP ps)[k]) := fun k h => by
    obtain ⟨j, hj, e⟩ := List.mem_iff_getElem.1 (hullP_mem _ (List.getElem_mem h)); exact ⟨j, hj, e⟩
  have cC : Hid (3 ≤ (hullP ps).length → (hullP ps).length ≤ 8 → ∀ A1 c1 j (h : j < ps.length) w', (hullP ps).length ≤ c1 → Pts w' A1 (hullP ps) → Calls Try.prog 12 #[.slice A1 (hullP ps).length c1, .agg #[.int .i64 ps[j].1, .int .i64 ps[j].2]] w' fun e w'' => e = .returned (.bool true) ∧ Below w'.heap.size w' w'') := fun h3 h8 A1 c1 j hj w' hk1 h => by
    have := xcont_b A1 c1 (hullP ps) ps[j].1 ps[j].2 (by omega) w' h; rw [hullP_cont h3 h8 (List.getElem_mem hj)] at this; exact this
  have cV : Hid (3 ≤ (hullP ps).length → (hullP ps).length ≤ 8 → ∀ A1 c1 w', (hullP ps).length ≤ c1 → Pts w' A1 (hullP ps) → Calls Try.prog 13 #[.slice A1 (hullP ps).length c1] w' fun e w'' => e = .returned (.bool true) ∧ Below w'.heap.size w' w'') := fun h3 h8 A1 c1 w' hk1 h => by
    have := xconv_b A1 c1 (hullP ps) (by omega) w' h; rw [hullP_cvx h3 h8] at this; exact this
  generalize hullP ps = H at *
  have i2 : ¬ (ps.length : Int) < (H.length : Int) := by omega
  have i2b : decide (ps.length < H.length) = false := by simp; omega
  have i2c : decide ((ps.length : Int) < (H.length : Int)) = false := by simp; omega
  go_enter Try.func3, Try.ntmps3
  go_upto_region 4 with (go_at_call 10; refine Calls.mono (cX _ (Pts.to hp (by repeat (first | with_reducible exact Below.refl _ _ | with_reducible assumption | refine bgw ?_ (by first | (simp; done) | (simp; omega) | omega) _ | refine Below.setCell ?_ (by first | exact Nat.le_of_not_lt (by assumption) | (simp; done) | (simp; omega) | omega) _ | refine Below.alloc ?_ (by first | (simp; done) | (simp; omega) | omega) _ | refine Below.drew ?_)))) ?_; rintro e w1 ⟨⟨A1, cap1, rfl, h11, h12, h13⟩, hb1⟩; obtain ⟨q1, rfl⟩ := gw_of_below hb1; clear hb1)
  clear cX
  go_wp2_with (first | (go_at_call 10; refine Calls.mono (cX2 _ _ _ h11 (Pts.to h13 (by repeat (first | with_reducible exact Below.refl _ _ | with_reducible assumption | refine bgw ?_ (by first | (simp; done) | (simp; omega) | omega) _ | refine Below.setCell ?_ (by first | exact Nat.le_of_not_lt (by assumption) | (simp; done) | (simp; omega) | omega) _ | refine Below.alloc ?_ (by first | (simp; done) | (simp; omega) | omega) _ | refine Below.drew ?_)))) ?_; rintro e w1 ⟨⟨A2, cap2, rfl, h21, h22, h23⟩, hb2⟩; obtain ⟨q2, rfl⟩ := gw_of_below hb2; clear hb2) | (go_at_call 11; refine Calls.mono (gw_at (cE _ _ _ _ _ (Pts.to h23 (by repeat (first | with_reducible exact Below.refl _ _ | with_reducible assumption | refine bgw ?_ (by first | (simp; done) | (simp; omega) | omega) _ | refine Below.setCell ?_ (by first | exact Nat.le_of_not_lt (by assumption) | (simp; done) | (simp; omega) | omega) _ | refine Below.alloc ?_ (by first | (simp; done) | (simp; omega) | omega) _ | refine Below.drew ?_))) (Pts.to h13 (by repeat (first | with_reducible exact Below.refl _ _ | with_reducible assumption | refine bgw ?_ (by first | (simp; done) | (simp; omega) | omega) _ | refine Below.setCell ?_ (by first | exact Nat.le_of_not_lt (by assumption) | (simp; done) | (simp; omega) | omega) _ | refine Below.alloc ?_ (by first | (simp; done) | (simp; omega) | omega) _ | refine Below.drew ?_))))) ?_; rintro e w1 ⟨rfl, q3, rfl⟩))
  refine wp_named ?_
  intro W hW
  have hbW : Below w.heap.size w W := by rw [hW]; exact (by repeat (first | with_reducible exact Below.refl _ _ | with_reducible assumption | refine bgw ?_ (by first | (simp; done) | (simp; omega) | omega) _ | refine Below.setCell ?_ (by first | exact Nat.le_of_not_lt (by assumption) | (simp; done) | (simp; omega) | omega) _ | refine Below.alloc ?_ (by first | (simp; done) | (simp; omega) | omega) _ | refine Below.drew ?_))
  have hH : Pts W A1 H := by rw [hW]; exact Pts.to h13 (by repeat (first | with_reducible exact Below.refl _ _ | with_reducible assumption | refine bgw ?_ (by first | (simp; done) | (simp; omega) | omega) _ | refine Below.setCell ?_ (by first | exact Nat.le_of_not_lt (by assumption) | (simp; done) | (simp; omega) | omega) _ | refine Below.alloc ?_ (by first | (simp; done) | (simp; omega) | omega) _ | refine Below.drew ?_))
  have hP : Pts W A ps := Pts.to hp hbW
  clear hW h13 h23 cX2 cE hp
  have hszW := hbW.size
  go_loopw [4] (fun i wr => ∃ k : Nat, k ≤ H.length ∧ i = .int .i64 (k : Int) ∧ ∃ p, wr = gw W p)
    (fun i _ => (H.length - intOf i).toNat)
  case atStart => exact ⟨0, by omega, rfl, ⟨⟨W.drawn, #[]⟩, (gw_zero W).symm⟩⟩
  case round =>
    obtain ⟨k, hk, rfl, p, rfl⟩ := hrel
    by_cases hlt : k < H.length
    · have j0 : (0 : Int) ≤ (k : Int) := by omega
      have j1 : (k : Int) < (H.length : Int) := by omega
      obtain ⟨b1, off1, hA1, hc1⟩ := pts_open hH (by omega)
      obtain ⟨b2, off2, hA2, hc2⟩ := pts_open hP (by omega)
      subst hA1 hA2
      have hmk := hmem.out k hlt
      have hmk2 : Hid (∃ j, ∃ h' : j < ps.length, ps[j] = H[k]) := hmk
      clear hmk
      go_wp2_with fail
      go_loopw [5, 6] (fun f m wx => ∃ (m' : Nat) (B : Bool), m' ≤ ps.length ∧ f = .bool B ∧ m = .int .i64 (m' : Int) ∧ Hid (B = true ↔ ∃ j, ∃ h' : j < ps.length, j < m' ∧ ps[j] = H[k]) ∧ ∃ p, wx = gw W p)
        (fun _ m _ => (ps.length - intOf m).toNat)
      case atStart => exact ⟨0, false, by omega, rfl, rfl, ⟨fun h => by (cases h), fun ⟨j, _, hj, _⟩ => absurd hj (by omega)⟩, ⟨p, rfl⟩⟩
      case round =>
        obtain ⟨m, B, hm, rfl, rfl, hB, p2, rfl⟩ := hrel
        by_cases hml : m < ps.length
        · have m0 : (0 : Int) ≤ (m : Int) := by omega
          have m1 : (m : Int) < (ps.length : Int) := by omega
          cases B
          rotate_left
          · have hg : Hid (true = true ↔ ∃ j, ∃ h' : j < ps.length, j < m + 1 ∧ ps[j] = H[k]) := ⟨fun _ => by obtain ⟨j, h1, h2, h3⟩ := hB.out.1 rfl; exact ⟨j, h1, by omega, h3⟩, fun _ => rfl⟩
            clear hB hc1 hc2
            go_wp2_with fail
            refine wp_region_gw (by kernel_rfl) (by kernel_rfl) ?_
            repeat (go_big_quiet_step ((first | (go_at_call 9; exact gw_call (example11_b _)))))
            refine wpQuiet_nil ?_
            intro w1 hw1
            obtain ⟨q, rfl⟩ := hw1
            go_wp2_with fail
            exact ⟨⟨m + 1, true, by omega, rfl, by go_num, ⟨fun _ => hg.out.1 (by first | trivial | rfl), fun _ => rfl⟩, gw_of_below (by repeat (first | with_reducible exact Below.refl _ _ | with_reducible assumption | refine bgw ?_ (by first | (simp; done) | (simp; omega) | omega) _ | refine Below.setCell ?_ (by first | exact Nat.le_of_not_lt (by assumption) | (simp; done) | (simp; omega) | omega) _ | refine Below.alloc ?_ (by first | (simp; done) | (simp; omega) | omega) _ | refine Below.drew ?_))⟩, by (try go_num); simp [intOf]; (try omega)⟩
          · obtain ⟨d0, d1⟩ := hc1 p2 k hlt
            obtain ⟨f0, f1⟩ := hc2 p2 m hml
            have ob := older_of_cell d0
            have ob' := older_of_cell f0
            have hiff : Hid (ps[m] = H[k] ↔ (ps[m].1 = H[k].1 ∧ ps[m].2 = H[k].2)) := Prod.ext_iff
            have hyes : Hid (ps[m] = H[k] → (true = true ↔ ∃ j, ∃ h' : j < ps.length, j < m + 1 ∧ ps[j] = H[k])) := fun h => ⟨fun _ => ⟨m, hml, by omega, h⟩, fun _ => rfl⟩
            have hno : Hid (¬ ps[m] = H[k] → (false = true ↔ ∃ j, ∃ h' : j < ps.length, j < m + 1 ∧ ps[j] = H[k])) := fun h => ⟨fun h => by (cases h), fun ⟨j, h1, h2, h3⟩ => by
              rcases (by omega : j < m ∨ j = m) with h4 | rfl
              · exact hB.out.2 ⟨j, h1, h4, h3⟩
              · exact absurd h3 h⟩
            clear hB hc1 hc2
            generalize ps[m].1 = x at *
            generalize ps[m].2 = y at *
            generalize H[k].1 = x' at *
            generalize H[k].2 = y' at *
            by_cases c1 : x = x'
            · by_cases c2 : y = y'
              · have b1 : (x == x') = true := by rw [beq_iff_eq]; exact c1
                have b2 : (y == y') = true := by rw [beq_iff_eq]; exact c2
                have hg : Hid _ := hyes.out (hiff.out.2 ⟨c1, c2⟩)
                clear hyes hno hiff c1 c2
                go_wp2_with fail
                refine wp_region_gw (by kernel_rfl) (by kernel_rfl) ?_
                repeat (go_big_quiet_step ((first | (go_at_call 9; exact gw_call (example11_b _)))))
                refine wpQuiet_nil ?_
                intro w1 hw1
                obtain ⟨q, rfl⟩ := hw1
                go_wp2_with fail
                exact ⟨⟨m + 1, true, by omega, by first | rfl | (simp [*]; done), by go_num, ⟨fun _ => hg.out.1 (by first | trivial | rfl), fun _ => rfl⟩, gw_of_below (by repeat (first | with_reducible exact Below.refl _ _ | with_reducible assumption | refine bgw ?_ (by first | (simp; done) | (simp; omega) | omega) _ | refine Below.setCell ?_ (by first | exact Nat.le_of_not_lt (by assumption) | (simp; done) | (simp; omega) | omega) _ | refine Below.alloc ?_ (by first | (simp; done) | (simp; omega) | omega) _ | refine Below.drew ?_))⟩, by (try go_num); simp [intOf]; (try omega)⟩
              · have b1 : (x == x') = true := by rw [beq_iff_eq]; exact c1
                have b2 : (y == y') = false := by rw [beq_eq_false_iff_ne]; exact c2
                have hg : Hid _ := hno.out (fun h => c2 (hiff.out.1 h).2)
                clear hyes hno hiff c1 c2
                go_wp2_with fail
                refine wp_region_gw (by kernel_rfl) (by kernel_rfl) ?_
                repeat (go_big_quiet_step ((first | (go_at_call 9; exact gw_call (example11_b _)))))
                refine wpQuiet_nil ?_
                intro w1 hw1
                obtain ⟨q, rfl⟩ := hw1
                go_wp2_with fail
                exact ⟨⟨m + 1, false, by omega, by first | rfl | (simp [*]; done), by go_num, hg, gw_of_below (by repeat (first | with_reducible exact Below.refl _ _ | with_reducible assumption | refine bgw ?_ (by first | (simp; done) | (simp; omega) | omega) _ | refine Below.setCell ?_ (by first | exact Nat.le_of_not_lt (by assumption) | (simp; done) | (simp; omega) | omega) _ | refine Below.alloc ?_ (by first | (simp; done) | (simp; omega) | omega) _ | refine Below.drew ?_))⟩, by (try go_num); simp [intOf]; (try omega)⟩
            · have b1 : (x == x') = false := by rw [beq_eq_false_iff_ne]; exact c1
              have hg : Hid _ := hno.out (fun h => c1 (hiff.out.1 h).1)
              clear hyes hno hiff c1
              go_wp2_with fail
              refine wp_region_gw (by kernel_rfl) (by kernel_rfl) ?_
              repeat (go_big_quiet_step ((first | (go_at_call 9; exact gw_call (example11_b _)))))
              refine wpQuiet_nil ?_
              intro w1 hw1
              obtain ⟨q, rfl⟩ := hw1
              go_wp2_with fail
              exact ⟨⟨m + 1, false, by omega, by first | rfl | (simp [*]; done), by go_num, hg, gw_of_below (by repeat (first | with_reducible exact Below.refl _ _ | with_reducible assumption | refine bgw ?_ (by first | (simp; done) | (simp; omega) | omega) _ | refine Below.setCell ?_ (by first | exact Nat.le_of_not_lt (by assumption) | (simp; done) | (simp; omega) | omega) _ | refine Below.alloc ?_ (by first | (simp; done) | (simp; omega) | omega) _ | refine Below.drew ?_))⟩, by (try go_num); simp [intOf]; (try omega)⟩
        · obtain rfl : m = ps.length := by omega
          have m1 : ¬ (ps.length : Int) < (ps.length : Int) := by omega
          obtain rfl : B = true := hB.out.2 (by obtain ⟨j, h1, h2⟩ := hmk2.out; exact ⟨j, h1, h1, h2⟩)
          clear hB hc1 hc2
          go_wp2_with fail
          exact ⟨⟨k + 1, by omega, by go_num, gw_of_below (by repeat (first | with_reducible exact Below.refl _ _ | with_reducible assumption | refine bgw ?_ (by first | (simp; done) | (simp; omega) | omega) _ | refine Below.setCell ?_ (by first | exact Nat.le_of_not_lt (by assumption) | (simp; done) | (simp; omega) | omega) _ | refine Below.alloc ?_ (by first | (simp; done) | (simp; omega) | omega) _ | refine Below.drew ?_))⟩, by (try go_num); simp [intOf]; (try omega)⟩
    · obtain rfl : k = H.length := by omega
      have j1 : ¬ (H.length : Int) < (H.length : Int) := by omega
      by_cases h38 : H.length < 3 ∨ 8 < H.length
      · rcases h38 with h3 | h8
        · have k3 : (H.length : Int) < 3 := by omega
          go_wp2_with (go_at_call 9; refine Calls.mono (gw_at (e0 _)) ?_; rintro e w1 ⟨rfl, q, rfl⟩)
          go_ret
          exact ⟨rfl, Below.trans hbW (by repeat (first | with_reducible exact Below.refl _ _ | with_reducible assumption | refine bgw ?_ (by first | (simp; done) | (simp; omega) | omega) _ | refine Below.setCell ?_ (by first | exact Nat.le_of_not_lt (by assumption) | (simp; done) | (simp; omega) | omega) _ | refine Below.alloc ?_ (by first | (simp; done) | (simp; omega) | omega) _ | refine Below.drew ?_))⟩
        · have k3 : ¬ (H.length : Int) < 3 := by omega
          have k8 : (8 : Int) < (H.length : Int) := by omega
          go_wp2_with (go_at_call 9; refine Calls.mono (gw_at (e0 _)) ?_; rintro e w1 ⟨rfl, q, rfl⟩)
          go_ret
          exact ⟨rfl, Below.trans hbW (by repeat (first | with_reducible exact Below.refl _ _ | with_reducible assumption | refine bgw ?_ (by first | (simp; done) | (simp; omega) | omega) _ | refine Below.setCell ?_ (by first | exact Nat.le_of_not_lt (by assumption) | (simp; done) | (simp; omega) | omega) _ | refine Below.alloc ?_ (by first | (simp; done) | (simp; omega) | omega) _ | refine Below.drew ?_))⟩
      · have k3 : ¬ (H.length : Int) < 3 := by omega
        have k8 : ¬ (8 : Int) < (H.length : Int) := by omega
        have cC2 := cC.out (by omega) (by omega)
        have cV2 := cV.out (by omega) (by omega)
        clear cC cV
        obtain ⟨b2, off2, hA2, hc2⟩ := pts_open hP (by omega)
        subst hA2
        go_wp2_with fail
        go_loopw [7] (fun i wr => ∃ m : Nat, m ≤ ps.length ∧ i = .int .i64 (m : Int) ∧ ∃ p, wr = gw W p)
          (fun i _ => (ps.length - intOf i).toNat)
        case atStart => exact ⟨0, by omega, rfl, ⟨p, rfl⟩⟩
        case round =>
          obtain ⟨m, hm, rfl, p2, rfl⟩ := hrel
          by_cases hml : m < ps.length
          · have m0 : (0 : Int) ≤ (m : Int) := by omega
            have m1 : (m : Int) < (ps.length : Int) := by omega
            obtain ⟨f0, f1⟩ := hc2 p2 m hml
            have ob := older_of_cell f0
            have cM := fun w' => cC2 A1 cap1 m hml w' h11
            clear cC2 hc2
            generalize ps[m].1 = x at *
            generalize ps[m].2 = y at *
            go_wp2_with (go_at_call 12; refine Calls.mono (gw_at (cM _ (Pts.to hH (by repeat (first | with_reducible exact Below.refl _ _ | with_reducible assumption | refine bgw ?_ (by first | (simp; done) | (simp; omega) | omega) _ | refine Below.setCell ?_ (by first | exact Nat.le_of_not_lt (by assumption) | (simp; done) | (simp; omega) | omega) _ | refine Below.alloc ?_ (by first | (simp; done) | (simp; omega) | omega) _ | refine Below.drew ?_))))) ?_; rintro e w1 ⟨rfl, q, rfl⟩)
            exact ⟨⟨m + 1, by omega, by go_num, gw_of_below (by repeat (first | with_reducible exact Below.refl _ _ | with_reducible assumption | refine bgw ?_ (by first | (simp; done) | (simp; omega) | omega) _ | refine Below.setCell ?_ (by first | exact Nat.le_of_not_lt (by assumption) | (simp; done) | (simp; omega) | omega) _ | refine Below.alloc ?_ (by first | (simp; done) | (simp; omega) | omega) _ | refine Below.drew ?_))⟩, by (try go_num); simp [intOf]; (try omega)⟩
          · obtain rfl : m = ps.length := by omega
            have m1 : ¬ (ps.length : Int) < (ps.length : Int) := by omega
            clear cC2 hc2
            go_wp2_with (first | (go_at_call 13; refine Calls.mono (gw_at (cV2 _ _ _ h11 (Pts.to hH (by repeat (first | with_reducible exact Below.refl _ _ | with_reducible assumption | refine bgw ?_ (by first | (simp; done) | (simp; omega) | omega) _ | refine Below.setCell ?_ (by first | exact Nat.le_of_not_lt (by assumption) | (simp; done) | (simp; omega) | omega) _ | refine Below.alloc ?_ (by first | (simp; done) | (simp; omega) | omega) _ | refine Below.drew ?_))))) ?_; rintro e w1 ⟨rfl, q, rfl⟩) | (go_at_call 9; refine Calls.mono (gw_at (e0 _)) ?_; rintro e w1 ⟨rfl, q5, rfl⟩))
            go_ret
            exact ⟨rfl, Below.trans hbW (by repeat (first | with_reducible exact Below.refl _ _ | with_reducible assumption | refine bgw ?_ (by first | (simp; done) | (simp; omega) | omega) _ | refine Below.setCell ?_ (by first | exact Nat.le_of_not_lt (by assumption) | (simp; done) | (simp; omega) | omega) _ | refine Below.alloc ?_ (by first | (simp; done) | (simp; omega) | omega) _ | refine Below.drew ?_))⟩

end Go.Proofs.Ytncijpaooiopfaa
