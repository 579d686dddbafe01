import Derived.Test.YtdldlcibjjccpaaBwA
import Derived.Deep.DeepCutAuto
set_option linter.unusedVariables false
set_option linter.unusedSimpArgs false
namespace Go.Proofs.Ytdldlcibjjccpaa
open Go.RowKit Fx

theorem ht_one {N : Nat} {h : Int} (hh : HtOk N h) : (h == 1) = ((N : Int) == 1) := by
  obtain ⟨p1, p2, p3⟩ := hh
  by_cases h0 : N = 0
  · subst h0; rw [p2 rfl]; rfl
  · obtain ⟨q1, q2, q3, q4, q5, q6⟩ := p3 h0
    by_cases h1 : N = 1
    · subst h1; rw [q3 rfl]; rfl
    · have : ¬ h = 1 := fun e => h1 (q2 e)
      have e1 : (h == 1) = false := by simpa using this
      have e2 : ((N : Int) == 1) = false := by simp; omega
      rw [e1, e2]
theorem ht_zero {N : Nat} {h : Int} (hh : HtOk N h) : (h == 0) = ((N : Int) == 0) := by
  obtain ⟨p1, p2, p3⟩ := hh
  by_cases h0 : N = 0
  · subst h0; rw [p2 rfl]; rfl
  · obtain ⟨q1, q2, q3, q4, q5, q6⟩ := p3 h0
    have e1 : (h == 0) = false := by simp; omega
    have e2 : ((N : Int) == 0) = false := by simp; omega
    rw [e1, e2]
theorem ht_max {N d : Nat} {h : Int} (hh : HtOk N h) (hd : N < 2 ^ d) : ¬ 2 * (d : Int) + 1 < h := fun hc => by
  obtain ⟨p1, p2, p3⟩ := hh
  by_cases h0 : N = 0
  · rw [p2 h0] at hc; omega
  · obtain ⟨q1, q2, q3, q4, q5, q6⟩ := p3 h0
    have := q6 d (by omega); omega

set_option maxRecDepth 100000 in
set_option maxHeartbeats 8000000 in
theorem walkE_BVHHeight (cE : ExC) (n st r : Int) (n0 : 0 ≤ n) (n1 : n ≤ 255) (s0 : -32768 ≤ st) (s1 : st ≤ 32767) (r0 : 0 ≤ r) (r1 : r ≤ 255) (w : World) : Calls Try.prog 6 #[.int .u8 n, .int .i16 st, .int .u8 r] w fun e w' => e = .returned (.bool true) ∧ Below w.heap.size w w' := by
  obtain ⟨N, rfl⟩ : ∃ N : Nat, n = (N : Int) := ⟨n.toNat, by omega⟩
  obtain ⟨R, rfl⟩ : ∃ R : Nat, r = (R : Int) := ⟨r.toNat, by omega⟩
  go_enter Try.func6, Try.ntmps6
  go_upto_region 2 with (go_at_call 11; with_reducible_and_instances refine Calls.mono (new_b _) ?_; rintro e W0 ⟨rfl, kt, hb0⟩; have hT0 := new_tree kt; clear kt)
  go_wp2_with fail
  go_loopw [8] (fun i wr => ∃ k : Nat, k ≤ N ∧ i = .int .i64 (k : Int) ∧ ∃ L S, Hid (Rg L 0 k) ∧ TreeAt wr w.heap.size L S ∧ Hid (∀ k, S k → w.heap.size ≤ k) ∧ Below w.heap.size w wr) (fun i _ => N - (intOf i).toNat)
  case atStart => exact ⟨0, by omega, rfl, _, _, rg_nil, hT0.below bBel, (show ∀ k, k = w.heap.size → w.heap.size ≤ k from fun k h => by omega), bBel⟩
  case round =>
    obtain ⟨k, hk, rfl, L, S, hG, hT, hS, hb⟩ := hrel
    have hszR := hb.size
    by_cases hkn : k < N
    · have hki : (k : Int) < (N : Int) := by omega
      have hm0 : -32768 * 255 ≤ (k : Int) * st ∧ (k : Int) * st ≤ 32768 * 255 := by
        have h1 : (k : Int) * st ≤ (k : Int) * 32768 := Int.mul_le_mul_of_nonneg_left (by omega) (by omega)
        have h2 : (k : Int) * (-32768) ≤ (k : Int) * st := Int.mul_le_mul_of_nonneg_left (by omega) (by omega)
        omega
      obtain ⟨m, hm⟩ : ∃ m, (k : Int) * st = m := ⟨_, rfl⟩
      rw [hm] at hm0
      obtain ⟨hm1, hm2⟩ := hm0
      have hw : IntKind.wrap .i64 m = m := by unfold IntKind.wrap; simp [IntKind.bits, IntKind.signed]; omega
      have hI0 : insC L (k : Int) ⟨m, 0, m + 1, 1⟩ = 0 := insC_ok (ub_val m (by omega) (by omega)) (rg_look hG.out _ (by omega)) (by have := hG.out.1; omega)
      have cI := ins_c w.heap.size L (insL L (k : Int) ⟨m, 0, m + 1, 1⟩) (k : Int) m 0 (m + 1) 1 0 (by unfold i64k; omega) hI0 (insT_ok hI0)
      have hG2 : Hid (Rg (insL L (k : Int) ⟨m, 0, m + 1, 1⟩) 0 (k + 1)) := rg_ins hG.out _
      have cU := fun w => ubox_b m (by omega) (by omega) w
      clear hI0 hG
      generalize insL L (k : Int) ⟨m, 0, m + 1, 1⟩ = L2 at *
      go_wp2_with (first | (go_at_call 28; refine Calls.mono (gw_at (cU _)) ?_; rintro e w1 ⟨rfl, q, rfl⟩) | (go_at_call 25; refine turn_useB cI (hT.below bBel) (V := w) bBel hS ?_; intro W2 S2 hT2 hS2 hb2))
      refine ⟨⟨k + 1, by omega, by go_num, L2, S2, hG2, hT2, hS2, bBel⟩, by (try go_num); simp [intOf]; (try omega)⟩
    · obtain rfl : k = N := by omega
      go_wp2_with fail
      go_loopw [9] (fun i wx => ∃ k2 : Nat, k2 ≤ k ∧ k2 ≤ R ∧ i = .int .i64 (k2 : Int) ∧ ∃ L S, Hid (Rg L k2 k) ∧ TreeAt wx w.heap.size L S ∧ Hid (∀ k, S k → w.heap.size ≤ k) ∧ Below w.heap.size w wx) (fun i _ => k - (intOf i).toNat)
      case atStart => exact ⟨0, by omega, by omega, rfl, L, S, hG, hT.below bBel, hS, bBel⟩
      case round =>
        clear hG hT hS hb hszR
        obtain ⟨k2, hk2, hkR, rfl, L, S, hG, hT, hS, hb⟩ := hrel
        have hszX := hb.size
        by_cases hc1 : k2 < k
        · have hi1 : (k2 : Int) < (k : Int) := by omega
          by_cases hc2 : k2 < R
          · have hi2 : (k2 : Int) < (R : Int) := by omega
            have cR := rem_c w.heap.size L (remL L (k2 : Int)) (k2 : Int) true (by unfold i64k; omega) (rg_look_in hG.out _ (by omega)) rfl
            have hG2 : Hid (Rg (remL L (k2 : Int)) (k2 + 1) k) := rg_rem hG.out hT.srt hc1
            clear hG
            generalize remL L (k2 : Int) = L2 at *
            go_wp2_with (go_at_call 26; refine turn_useB cR (hT.below bBel) (V := w) bBel hS ?_; intro W2 S2 hT2 hS2 hb2)
            refine ⟨⟨k2 + 1, by omega, by omega, by go_num, L2, S2, hG2, hT2, hS2, bBel⟩, by (try go_num); simp [intOf]; (try omega)⟩
          · have hi2 : ¬ (k2 : Int) < (R : Int) := by omega
            have hkr : k2 = R := by omega
            subst hkr
            obtain ⟨B, hB⟩ : ∃ B, L.length = B := ⟨_, rfl⟩
            have hB2 : (B : Int) = (k : Int) - k2 := by have := hG.out.1; omega
            clear hG
            go_upto_region 13 with (first | (go_at_call 17; refine Calls.mono (gw_at (len_b _ L _ _ (hT.below bBel))) ?_; rintro e w1 ⟨rfl, q, rfl⟩; rw [hB]) | (go_at_call 29; refine Calls.mono (gw_ex (height_b _ L _ _ (hT.below bBel))) ?_; rintro e w1 ⟨⟨H, rfl, hH⟩, qH, rfl⟩))
            rw [hB] at hH
            have hH : Hid (HtOk B H) := hH
            have z0 := ht_zero hH.out
            have z1 := ht_one hH.out
            have hH16 : H ≤ 16 := by
              obtain ⟨p1, p2, p3⟩ := hH.out
              by_cases e0 : B = 0
              · rw [p2 e0]; decide
              · obtain ⟨q1, q2, q3, q4, q5, q6⟩ := p3 e0
                have : ¬ 17 ≤ H := fun h => by have := q6 8 (by omega); omega
                omega
            have hH0 : 0 ≤ H := hH.out.1
            have hsub : (k : Int) - k2 = (B : Int) := by omega
            have hmx : max (B : Int) 0 = (B : Int) := by omega
            clear hB2 hB
            go_wp2_with (go_at_call 30; refine Calls.mono (gw_ex (maxheight_b B (by omega) _)) ?_; rintro e w1 ⟨⟨d, rfl, hd⟩, qM, rfl⟩; have hnd := ht_max hH.out hd.out)
            go_loopw [12, 13] (fun l i wx => ∃ j : Nat, 1 ≤ j ∧ (j = 1 ∨ (j : Int) ≤ H) ∧ i = .int .i64 (j : Int) ∧ (∃ m : Nat, l = .int .i64 (m : Int) ∧ Hid (m = 2 ^ (j - 1))) ∧ Below w.heap.size w wx) (fun _ i _ => 17 - (intOf i).toNat)
            case atStart => exact ⟨1, by omega, .inl rfl, rfl, ⟨1, rfl, rfl⟩, bBel⟩
            case round =>
              clear hT hS hb hszX
              obtain ⟨j, hj1, hj2, rfl, ⟨m, rfl, hm⟩, hb⟩ := hrel
              have hszY := hb.size
              have hm16 : m ≤ 32768 := by
                have h1 : j - 1 ≤ 15 := by omega
                have h2 : 2 ^ (j - 1) ≤ 2 ^ 15 := Nat.pow_le_pow_right (by decide) h1
                have := hm.out; omega
              by_cases hjH : (j : Int) < H
              · have hm2 : Hid (2 * m = 2 ^ (j + 1 - 1)) := by
                  have e1 : j + 1 - 1 = (j - 1) + 1 := by omega
                  show 2 * m = 2 ^ (j + 1 - 1)
                  rw [e1, Nat.pow_succ, hm.out]; omega
                clear hm
                have hmw : (2 : Int) * (m : Int) = ((2 * m : Nat) : Int) := by omega
                generalize 2 * m = m2 at *
                go_wp2_with fail
                refine ⟨⟨j + 1, by omega, .inr (by omega), by go_num, ⟨m2, rfl, hm2⟩, bBel⟩, by (try go_num); simp [intOf]; (try omega)⟩
              · have hBm : B ≠ 0 → (B : Int) ≤ (m : Int) := fun h0 => by
                  obtain ⟨p1, p2, p3⟩ := hH.out
                  obtain ⟨q1, q2, q3, q4, q5, q6⟩ := p3 h0
                  have e1 : H.toNat - 1 = j - 1 := by omega
                  rw [e1, ← hm.out] at q4; exact q4
                clear hm
                by_cases hB0 : B = 0
                · subst hB0
                  go_wp2_with (go_at_call 10; refine Calls.mono (gw_at (cE _)) ?_; rintro e w1 ⟨rfl, qE, rfl⟩)
                  go_ret
                  exact ⟨rfl, bBel⟩
                · have hBm := hBm hB0
                  have hBz : ¬ (B : Int) = 0 := by omega
                  go_wp2_with (go_at_call 10; refine Calls.mono (gw_at (cE _)) ?_; rintro e w1 ⟨rfl, qE, rfl⟩)
                  go_ret
                  exact ⟨rfl, bBel⟩
        · have hi1 : ¬ (k2 : Int) < (k : Int) := by omega
          obtain rfl : k2 = k := by omega
          obtain ⟨B, hB⟩ : ∃ B, L.length = B := ⟨_, rfl⟩
          have hB2 : (B : Int) = 0 := by have := hG.out.1; omega
          clear hG
          go_upto_region 13 with (first | (go_at_call 17; refine Calls.mono (gw_at (len_b _ L _ _ (hT.below bBel))) ?_; rintro e w1 ⟨rfl, q, rfl⟩; rw [hB]) | (go_at_call 29; refine Calls.mono (gw_ex (height_b _ L _ _ (hT.below bBel))) ?_; rintro e w1 ⟨⟨H, rfl, hH⟩, qH, rfl⟩))
          rw [hB] at hH
          have hH : Hid (HtOk B H) := hH
          have z0 := ht_zero hH.out
          have z1 := ht_one hH.out
          have hH16 : H ≤ 16 := by
            obtain ⟨p1, p2, p3⟩ := hH.out
            by_cases e0 : B = 0
            · rw [p2 e0]; decide
            · obtain ⟨q1, q2, q3, q4, q5, q6⟩ := p3 e0
              have : ¬ 17 ≤ H := fun h => by have := q6 8 (by omega); omega
              omega
          have hH0 : 0 ≤ H := hH.out.1
          have hmx : max ((k2 : Int) - R) 0 = 0 := by omega
          obtain rfl : B = 0 := by omega
          clear hB2 hB
          go_wp2_with (go_at_call 30; refine Calls.mono (gw_ex (maxheight_b 0 (by omega) _)) ?_; rintro e w1 ⟨⟨d, rfl, hd⟩, qM, rfl⟩; have hnd := ht_max hH.out hd.out)
          go_loopw [12, 13] (fun l i wx => ∃ j : Nat, 1 ≤ j ∧ (j = 1 ∨ (j : Int) ≤ H) ∧ i = .int .i64 (j : Int) ∧ (∃ m : Nat, l = .int .i64 (m : Int) ∧ Hid (m = 2 ^ (j - 1))) ∧ Below w.heap.size w wx) (fun _ i _ => 17 - (intOf i).toNat)
          case atStart => exact ⟨1, by omega, .inl rfl, rfl, ⟨1, rfl, rfl⟩, bBel⟩
          case round =>
            clear hT hS hb hszX
            obtain ⟨j, hj1, hj2, rfl, ⟨m, rfl, hm⟩, hb⟩ := hrel
            have hszY := hb.size
            have hm16 : m ≤ 32768 := by
              have h1 : j - 1 ≤ 15 := by omega
              have h2 : 2 ^ (j - 1) ≤ 2 ^ 15 := Nat.pow_le_pow_right (by decide) h1
              have := hm.out; omega
            by_cases hjH : (j : Int) < H
            · have hm2 : Hid (2 * m = 2 ^ (j + 1 - 1)) := by
                have e1 : j + 1 - 1 = (j - 1) + 1 := by omega
                show 2 * m = 2 ^ (j + 1 - 1)
                rw [e1, Nat.pow_succ, hm.out]; omega
              clear hm
              have hmw : (2 : Int) * (m : Int) = ((2 * m : Nat) : Int) := by omega
              generalize 2 * m = m2 at *
              go_wp2_with fail
              refine ⟨⟨j + 1, by omega, .inr (by omega), by go_num, ⟨m2, rfl, hm2⟩, bBel⟩, by (try go_num); simp [intOf]; (try omega)⟩
            · clear hm
              go_wp2_with (go_at_call 10; refine Calls.mono (gw_at (cE _)) ?_; rintro e w1 ⟨rfl, qE, rfl⟩)
              go_ret
              exact ⟨rfl, bBel⟩

theorem walk_BVHHeight (n st r : Int) (hn : IntKind.u8.has n) (hs : IntKind.i16.has st) (hr : IntKind.u8.has r) (w : World) : Calls Try.prog 6 #[.int .u8 n, .int .i16 st, .int .u8 r] w fun e w' => e = .returned (.bool true) ∧ Below w.heap.size w w' := by
  have h1 := hn.1; have h2 := hn.2; have h3 := hs.1; have h4 := hs.2; have h5 := hr.1; have h6 := hr.2
  simp [IntKind.min, IntKind.max, IntKind.bits, IntKind.signed] at h1 h2 h3 h4 h5 h6
  exact walkE_BVHHeight example20_b n st r (by omega) (by omega) (by omega) (by omega) (by omega) (by omega) w

end Go.Proofs.Ytdldlcibjjccpaa
