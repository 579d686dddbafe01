/- Laws of chapter 11: PolygonSupport. -/
import Derived.Test.YtncijpaooiopfaaFixHN
set_option linter.unusedVariables false
namespace Go.Proofs.Ytncijpaooiopfaa
open Go.RowKit Fx

set_option maxRecDepth 100000 in
set_option maxHeartbeats 16000000 in
theorem walk_PolygonSupport (A : Option Addr) (cap : Nat) (ps : List (Int × Int)) (x y : Int) (w : World) (hp : Pts w A ps) (hl : ps.length ≤ cap) (hc : cap ≤ maxLen) : Calls Try.prog 8 #[.slice A ps.length cap, .agg #[.int .i64 x, .int .i64 y]] w fun e w' => e = .returned (.bool true) ∧ Below w.heap.size w w' := by
  have e0 := example11_b
  have cS : ∀ a b w', Calls Try.prog 25 #[.agg #[.int .i64 a, .int .i64 b]] w' fun e w'' => e = .returned (.agg #[.int .i64 (sat a), .int .i64 (sat b)]) ∧ Below w'.heap.size w' w'' := fun a b w' => rxsat_b _ _ _
  have cS1 := cS x y
  by_cases n20 : 20 < ps.length
  focus
    have i1 : (20 : Int) < (ps.length : Int) := by omega
    go_enter Try.func8, Try.ntmps8
    go_wp2_with fail
    refine wp_region_gw (by kernel_rfl) (by decide +kernel) ?_
    repeat (go_big_quiet_step ((go_at_call 25; exact gw_call (cS1 _))))
    refine wpQuiet_nil ?_
    intro w1 hw1
    obtain ⟨q, rfl⟩ := hw1
    go_wp2_with (go_at_call 9; refine Calls.mono (gw_at (e0 _)) ?_; rintro e w1 ⟨rfl, q, rfl⟩)
    go_ret
    exact ⟨rfl, (by repeat (first | with_reducible exact Below.refl _ _ | with_reducible assumption | refine bgw ?_ (by first | (simp; done) | (simp; omega) | omega) _ | refine Below.setCell ?_ (by first | exact Nat.le_of_not_lt (by assumption) | (simp; done) | (simp; omega) | omega) _ | refine Below.alloc ?_ (by first | (simp; done) | (simp; omega) | omega) _ | refine Below.drew ?_))⟩
  have i1 : ¬ (20 : Int) < (ps.length : Int) := by omega
  have i1b : decide ((20 : Int) < (ps.length : Int)) = false := by simp; omega
  by_cases hd : sat x = x ∧ sat y = y
  rotate_left
  focus
    have hne : (x == sat x) = false ∨ ((x == sat x) = true ∧ (y == sat y) = false) := by
      by_cases c : sat x = x
      · exact .inr ⟨by rw [beq_iff_eq]; exact c.symm, by rw [beq_eq_false_iff_ne]; exact fun e => hd ⟨c, e.symm⟩⟩
      · exact .inl (by rw [beq_eq_false_iff_ne]; exact fun e => c e.symm)
    clear hd
    generalize sat x = sx at *
    generalize sat y = sy at *
    rcases hne with b1 | ⟨b1, b2⟩
    all_goals
      go_enter Try.func8, Try.ntmps8
      go_wp2_with fail
      refine wp_region_gw (by kernel_rfl) (by decide +kernel) ?_
      repeat (go_big_quiet_step ((go_at_call 25; exact gw_call (cS1 _))))
      refine wpQuiet_nil ?_
      intro w1 hw1
      obtain ⟨q, rfl⟩ := hw1
      go_wp2_with (go_at_call 9; refine Calls.mono (gw_at (e0 _)) ?_; rintro e w1 ⟨rfl, q, rfl⟩)
      go_ret
      exact ⟨rfl, (by repeat (first | with_reducible exact Below.refl _ _ | with_reducible assumption | refine bgw ?_ (by first | (simp; done) | (simp; omega) | omega) _ | refine Below.setCell ?_ (by first | exact Nat.le_of_not_lt (by assumption) | (simp; done) | (simp; omega) | omega) _ | refine Below.alloc ?_ (by first | (simp; done) | (simp; omega) | omega) _ | refine Below.drew ?_))⟩
  obtain ⟨hx, hy⟩ := hd
  have hx2 : Hid (sat x = x) := hx
  have hy2 : Hid (sat y = y) := hy
  have gx1 := sat_le x; have gx2 := sat_ge x; have gy1 := sat_le y; have gy2 := sat_ge y
  rw [hx, hy] at cS1
  rw [hx] at gx1 gx2
  rw [hy] at gy1 gy2
  clear hx hy
  have cU := fun w' h => xsup_b A cap ps x y (by omega) w' h
  go_enter Try.func8, Try.ntmps8
  go_wp2_with fail
  refine wp_region_gw (by kernel_rfl) (by decide +kernel) ?_
  repeat (go_big_quiet_step ((go_at_call 25; exact gw_call (cS1 _))))
  refine wpQuiet_nil ?_
  intro w1 hw1
  obtain ⟨q, rfl⟩ := hw1
  go_wp2_with fail
  refine wp_named ?_
  intro W hW
  have kV : blk W w.heap.size #[.int .i64 x, .int .i64 y] 27 := by rw [hW]; exact (by repeat (first | with_reducible exact blk_new _ _ _ | ((with_reducible refine blk_at ?_); (simp; done)) | with_reducible apply blk_alloc | with_reducible apply blk_gw | with_reducible apply blk_drew))
  have hbW : Below w.heap.size w W := by rw [hW]; exact (by repeat (first | with_reducible exact Below.refl _ _ | with_reducible assumption | refine bgw ?_ (by first | (simp; done) | (simp; omega) | omega) _ | refine Below.setCell ?_ (by first | exact Nat.le_of_not_lt (by assumption) | (simp; done) | (simp; omega) | omega) _ | refine Below.alloc ?_ (by first | (simp; done) | (simp; omega) | omega) _ | refine Below.drew ?_))
  clear hW cS1
  have hszW := hbW.size
  have hP : Pts W A ps := Pts.to hp hbW
  go_loopw [5] (fun i wr => ∃ k : Nat, k ≤ ps.length ∧ i = .int .i64 (k : Int) ∧ Hid (∀ j (h : j < ps.length), j < k → sat ps[j].1 = ps[j].1 ∧ sat ps[j].2 = ps[j].2) ∧ ∃ p, wr = gw W p)
    (fun i _ => (ps.length - intOf i).toNat)
  case atStart => exact ⟨0, by omega, rfl, fun j _ hj => absurd hj (by omega), ⟨⟨W.drawn, #[]⟩, (gw_zero W).symm⟩⟩
  case round =>
    obtain ⟨k, hk, rfl, hall, p, rfl⟩ := hrel
    by_cases hlt : k < ps.length
    · have j0 : (0 : Int) ≤ (k : Int) := by omega
      have j1 : (k : Int) < (ps.length : Int) := by omega
      obtain ⟨b, off, hA, hc1⟩ := pts_open hP (by omega)
      subst hA
      obtain ⟨d0, d1⟩ := hc1 p k hlt
      have ob := older_of_cell d0
      have cK := cS ps[k].1 ps[k].2
      have hstep : sat ps[k].1 = ps[k].1 → sat ps[k].2 = ps[k].2 → Hid (∀ j (h : j < ps.length), j < k + 1 → sat ps[j].1 = ps[j].1 ∧ sat ps[j].2 = ps[j].2) := fun h1 h2 j h hj => by
        rcases (by omega : j < k ∨ j = k) with h3 | rfl
        · exact hall.out j h h3
        · exact ⟨h1, h2⟩
      clear hall hc1 cS cU
      generalize ps[k].1 = u at *
      generalize ps[k].2 = v at *
      have hcase : (sat u = u ∧ sat v = v) ∨ (u == sat u) = false ∨ ((u == sat u) = true ∧ (v == sat v) = false) := by
        by_cases c : sat u = u
        · by_cases c2 : sat v = v
          · exact .inl ⟨c, c2⟩
          · exact .inr (.inr ⟨by rw [beq_iff_eq]; exact c.symm, by rw [beq_eq_false_iff_ne]; exact fun e => c2 e.symm⟩)
        · exact .inr (.inl (by rw [beq_eq_false_iff_ne]; exact fun e => c e.symm))
      rcases hcase with ⟨h1, h2⟩ | b1 | ⟨b1, b2⟩
      · have hg := hstep h1 h2
        rw [h1, h2] at cK
        clear hstep h1 h2
        go_wp2_with fail
        refine wp_region_gw (by kernel_rfl) (by decide +kernel) ?_
        repeat (go_big_quiet_step ((go_at_call 25; exact gw_call (cK _))))
        refine wpQuiet_nil ?_
        intro w1 hw1
        obtain ⟨q, rfl⟩ := hw1
        go_wp2_with fail
        exact ⟨⟨k + 1, by omega, by go_num, hg, gw_of_below (by repeat (first | with_reducible exact Below.refl _ _ | with_reducible assumption | refine bgw ?_ (by first | (simp; done) | (simp; omega) | omega) _ | refine Below.setCell ?_ (by first | exact Nat.le_of_not_lt (by assumption) | (simp; done) | (simp; omega) | omega) _ | refine Below.alloc ?_ (by first | (simp; done) | (simp; omega) | omega) _ | refine Below.drew ?_))⟩, by (try go_num); simp [intOf]; (try omega)⟩
      all_goals
        clear hstep
        generalize sat u = su at *
        generalize sat v = sv at *
        go_wp2_with fail
        refine wp_region_gw (by kernel_rfl) (by decide +kernel) ?_
        repeat (go_big_quiet_step ((go_at_call 25; exact gw_call (cK _))))
        refine wpQuiet_nil ?_
        intro w1 hw1
        obtain ⟨q, rfl⟩ := hw1
        go_wp2_with (go_at_call 9; refine Calls.mono (gw_at (e0 _)) ?_; rintro e w1 ⟨rfl, q, rfl⟩)
        go_ret
        exact ⟨rfl, Below.trans hbW (by repeat (first | with_reducible exact Below.refl _ _ | with_reducible assumption | refine bgw ?_ (by first | (simp; done) | (simp; omega) | omega) _ | refine Below.setCell ?_ (by first | exact Nat.le_of_not_lt (by assumption) | (simp; done) | (simp; omega) | omega) _ | refine Below.alloc ?_ (by first | (simp; done) | (simp; omega) | omega) _ | refine Below.drew ?_))⟩
    · obtain rfl : k = ps.length := by omega
      have j1 : ¬ (ps.length : Int) < (ps.length : Int) := by omega
      have kV2 := blk_gw (p := p) kV
      have okV2 := blk_older kV2
      have ckV2_0 : _ = some _ := blk_cell kV2 0
      have ckV2_1 : _ = some _ := blk_cell kV2 1
      have fkV2_0 := blk_free kV2 0
      have fkV2_1 := blk_free kV2 1
      by_cases h0 : ps.length = 0
      · obtain rfl : ps = [] := List.eq_nil_of_length_eq_zero h0
        have cU2 : ∀ w', Calls Try.prog 22 #[.slice A 0 cap, .agg #[.int .i64 x, .int .i64 y]] w' fun e w'' => e = .returned (.int .i64 (-1)) ∧ Below w'.heap.size w' w'' := fun w' => cU w' (.inl rfl)
        clear cU
        go_wp2_with (first | (go_at_call 22; refine Calls.mono (gw_at (cU2 _)) ?_; rintro e w1 ⟨rfl, q, rfl⟩) | (go_at_call 9; refine Calls.mono (gw_at (e0 _)) ?_; rintro e w1 ⟨rfl, q, rfl⟩))
        go_ret
        exact ⟨rfl, Below.trans hbW (by repeat (first | with_reducible exact Below.refl _ _ | with_reducible assumption | refine bgw ?_ (by first | (simp; done) | (simp; omega) | omega) _ | refine Below.setCell ?_ (by first | exact Nat.le_of_not_lt (by assumption) | (simp; done) | (simp; omega) | omega) _ | refine Below.alloc ?_ (by first | (simp; done) | (simp; omega) | omega) _ | refine Below.drew ?_))⟩
      · obtain ⟨K, hK, hsup, hmax⟩ := sup_spec ps x y ps.length (by omega)
        have hsK : supP ps x y = (K : Int) := by unfold supP; rw [hsup]
        rw [hsK] at cU
        have k0 : ¬ (K : Int) < 0 := by omega
        have k1 : ¬ (ps.length : Int) ≤ (K : Int) := by omega
        have hdot : ∀ j (h : j < ps.length), Hid (dots (hp' ps j) x y = ps[j].1 * x + ps[j].2 * y) := fun j h => by
          show _ = _
          unfold dots
          rw [hp_get h, (hall.out j h h).1, (hall.out j h h).2, hx2.out, hy2.out]
        have hmax2 : Hid (∀ i (h : i < ps.length), ps[i].1 * x + ps[i].2 * y ≤ ps[K].1 * x + ps[K].2 * y ∧ (ps[i].1 * x + ps[i].2 * y = ps[K].1 * x + ps[K].2 * y → K ≤ i)) := fun i h => by
          have := hmax i h
          rw [(hdot i h).out, (hdot K hK).out] at this; exact this
        have hbnd : Hid (∀ j (h : j < ps.length), (-536870911 ≤ ps[j].1 ∧ ps[j].1 ≤ 536870911) ∧ -536870911 ≤ ps[j].2 ∧ ps[j].2 ≤ 536870911) := fun j h => by
          have a := sat_le ps[j].1; have b := sat_ge ps[j].1; have c := sat_le ps[j].2; have d := sat_ge ps[j].2
          rw [(hall.out j h h).1] at a b; rw [(hall.out j h h).2] at c d
          exact ⟨⟨b, a⟩, d, c⟩
        clear hdot hmax hsup hsK hall
        obtain ⟨b, off, hA, hc1⟩ := pts_open hP (by omega)
        subst hA
        go_wp2_with (go_at_call 22; refine Calls.mono (gw_at (cU _ (Pts.to hP (by repeat (first | with_reducible exact Below.refl _ _ | with_reducible assumption | refine bgw ?_ (by first | (simp; done) | (simp; omega) | omega) _ | refine Below.setCell ?_ (by first | exact Nat.le_of_not_lt (by assumption) | (simp; done) | (simp; omega) | omega) _ | refine Below.alloc ?_ (by first | (simp; done) | (simp; omega) | omega) _ | refine Below.drew ?_))))) ?_; rintro e w1 ⟨rfl, q, rfl⟩)
        clear cU
        go_loopw [7] (fun i wr => ∃ m : Nat, m ≤ ps.length ∧ i = .int .i64 (m : Int) ∧ ∃ p, wr = gw W p)
          (fun i _ => (ps.length - intOf i).toNat)
        case atStart => exact ⟨0, by omega, rfl, gw_of_below (by repeat (first | with_reducible exact Below.refl _ _ | with_reducible assumption | refine bgw ?_ (by first | (simp; done) | (simp; omega) | omega) _ | refine Below.setCell ?_ (by first | exact Nat.le_of_not_lt (by assumption) | (simp; done) | (simp; omega) | omega) _ | refine Below.alloc ?_ (by first | (simp; done) | (simp; omega) | omega) _ | refine Below.drew ?_))⟩
        case round =>
          obtain ⟨m, hm, rfl, p2, rfl⟩ := hrel
          by_cases hml : m < ps.length
          · have m0 : (0 : Int) ≤ (m : Int) := by omega
            have m1 : (m : Int) < (ps.length : Int) := by omega
            have q0 : (0 : Int) ≤ (K : Int) := by omega
            have q1 : (K : Int) < (ps.length : Int) := by omega
            have kV3 := blk_gw (p := p2) kV
            have okV3 := blk_older kV3
            have ckV3_0 : _ = some _ := blk_cell kV3 0
            have ckV3_1 : _ = some _ := blk_cell kV3 1
            have fkV3_0 := blk_free kV3 0
            have fkV3_1 := blk_free kV3 1
            obtain ⟨f0, f1⟩ := hc1 p2 m hml
            obtain ⟨g0, g1⟩ := hc1 p2 K hK
            have ob := older_of_cell f0
            obtain ⟨u1, u2⟩ := hmax2.out m hml
            obtain ⟨bu, bv⟩ := hbnd.out m hml
            obtain ⟨bs, bt⟩ := hbnd.out K hK
            have p1 := mul_between (a := ps[m].1) (b := x) (A := 536870911) (B := 536870911) (by omega) (by omega) (by omega) (by omega)
            have p2' := mul_between (a := ps[m].2) (b := y) (A := 536870911) (B := 536870911) (by omega) (by omega) (by omega) (by omega)
            have p3 := mul_between (a := ps[K].1) (b := x) (A := 536870911) (B := 536870911) (by omega) (by omega) (by omega) (by omega)
            have p4 := mul_between (a := ps[K].2) (b := y) (A := 536870911) (B := 536870911) (by omega) (by omega) (by omega) (by omega)
            clear hc1 hmax2 hbnd
            generalize ps[m].1 = u at *
            generalize ps[m].2 = v at *
            generalize ps[K].1 = s at *
            generalize ps[K].2 = t at *
            have w1' : IntKind.i64.wrap (u * x) = u * x := by rw [IntKind.wrap_i64]; omega
            have w2' : IntKind.i64.wrap (v * y) = v * y := by rw [IntKind.wrap_i64]; omega
            have w3' : IntKind.i64.wrap (s * x) = s * x := by rw [IntKind.wrap_i64]; omega
            have w4' : IntKind.i64.wrap (t * y) = t * y := by rw [IntKind.wrap_i64]; omega
            have w5' : IntKind.i64.wrap (u * x + v * y) = u * x + v * y := by rw [IntKind.wrap_i64]; omega
            have w6' : IntKind.i64.wrap (u * x + v * y - s * x) = u * x + v * y - s * x := by rw [IntKind.wrap_i64]; omega
            have w7' : IntKind.i64.wrap (u * x + v * y - s * x - t * y) = u * x + v * y - s * x - t * y := by rw [IntKind.wrap_i64]; omega
            obtain ⟨D, hD⟩ : ∃ D, Hid (u * x + v * y - s * x - t * y = D) := ⟨u * x + v * y - s * x - t * y, rfl⟩
            have hD0 : ¬ 0 < D := by have := hD.out; omega
            have hDc : (D == 0) = false ∨ ((D == 0) = true ∧ ¬ (m : Int) < (K : Int)) := by
              have := hD.out
              by_cases c : D = 0
              · exact .inr ⟨by rw [beq_iff_eq]; exact c, by have := u2 (by omega); omega⟩
              · exact .inl (by rw [beq_eq_false_iff_ne]; exact c)
            go_upto_region 14 with fail
            refine wp_region_gw (by kernel_rfl) (by decide +kernel) ?_
            repeat (go_big_quiet_step (fail))
            refine wpQuiet_nil ?_
            intro w1 hw1
            obtain ⟨q, rfl⟩ := hw1
            rw [hD.out]
            clear w1' w2' w3' w4' w5' w6' w7' p1 p2' p3 p4 u1 u2
            rcases hDc with b1 | ⟨b1, b2⟩
            all_goals
              go_wp2_with fail
              exact ⟨⟨m + 1, by omega, by go_num, gw_of_below (by repeat (first | with_reducible exact Below.refl _ _ | with_reducible assumption | refine bgw ?_ (by first | (simp; done) | (simp; omega) | omega) _ | refine Below.setCell ?_ (by first | exact Nat.le_of_not_lt (by assumption) | (simp; done) | (simp; omega) | omega) _ | refine Below.alloc ?_ (by first | (simp; done) | (simp; omega) | omega) _ | refine Below.drew ?_))⟩, by (try go_num); simp [intOf]; (try omega)⟩
          · obtain rfl : m = ps.length := by omega
            have m1 : ¬ (ps.length : Int) < (ps.length : Int) := by omega
            clear hc1 hmax2 hbnd
            go_wp2_with (go_at_call 9; refine Calls.mono (gw_at (e0 _)) ?_; rintro e w1 ⟨rfl, q, rfl⟩)
            go_ret
            exact ⟨rfl, Below.trans hbW (by repeat (first | with_reducible exact Below.refl _ _ | with_reducible assumption | refine bgw ?_ (by first | (simp; done) | (simp; omega) | omega) _ | refine Below.setCell ?_ (by first | exact Nat.le_of_not_lt (by assumption) | (simp; done) | (simp; omega) | omega) _ | refine Below.alloc ?_ (by first | (simp; done) | (simp; omega) | omega) _ | refine Below.drew ?_))⟩

end Go.Proofs.Ytncijpaooiopfaa
