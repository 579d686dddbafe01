/- Law of chapter 11: PolygonHullOrder. -/
import Derived.Test.YtncijpaooiopfaaFixHQ
set_option linter.unusedVariables false
namespace Go.Proofs.Ytncijpaooiopfaa
open Go.RowKit Fx

set_option maxRecDepth 100000 in
set_option maxHeartbeats 16000000 in
theorem walk_PolygonHullOrder (A : Option Addr) (cap : Nat) (ps : List (Int × Int)) (k : Int) (hk : IntKind.u8.has k) (w : World) (hp : Pts w A ps) (hl : ps.length ≤ cap) (hc : cap ≤ maxLen) (hA : A = none → cap = 0) : Calls Try.prog 6 #[.slice A ps.length cap, .int .u8 k] w fun e w' => e = .returned (.bool true) ∧ Below w.heap.size w w' := by
  have e0 := example11_b
  by_cases n32 : 32 < ps.length
  focus
    have i1 : (32 : Int) < (ps.length : Int) := by omega
    go_enter Try.func6, Try.ntmps6
    go_wp2_with (go_at_call 9; refine Calls.mono (gw_at (e0 _)) ?_; rintro e w1 ⟨rfl, q, rfl⟩)
    go_ret
    exact ⟨rfl, (by repeat (first | with_reducible exact Below.refl _ _ | with_reducible assumption | refine bgw ?_ (by first | (simp; done) | (simp; omega) | omega) _ | refine Below.setCell ?_ (by first | exact Nat.le_of_not_lt (by assumption) | (simp; done) | (simp; omega) | omega) _ | refine Below.alloc ?_ (by first | (simp; done) | (simp; omega) | omega) _ | refine Below.drew ?_))⟩
  have i1 : ¬ (32 : Int) < (ps.length : Int) := by omega
  have k0 : 0 ≤ k := by have := hk.1; simpa [IntKind.min, IntKind.bits, IntKind.signed] using this
  have hw : wrap64 k = k := by
    have := hk.2; simp [IntKind.max, IntKind.bits, IntKind.signed] at this
    unfold wrap64; omega
  have hM : ∃ m : Nat, m ≤ ps.length ∧ ((0 < ps.length ∧ (wrap64 k).tmod (ps.length : Int) = (m : Int)) ∨ (ps.length = 0 ∧ m = 0)) := by
    by_cases h0 : 0 < ps.length
    · rw [hw, Int.tmod_eq_emod_of_nonneg k0]
      have g1 := Int.emod_nonneg k (b := (ps.length : Int)) (by omega)
      have g2 := Int.emod_lt_of_pos k (b := (ps.length : Int)) (by omega)
      exact ⟨(k % (ps.length : Int)).toNat, by omega, .inl ⟨h0, by omega⟩⟩
    · exact ⟨0, by omega, .inr ⟨by omega, rfl⟩⟩
  obtain ⟨m, hm, hcase⟩ := hM
  have m0 : (0 : Int) ≤ (m : Int) := by omega
  have m1 : (m : Int) ≤ (cap : Int) := by omega
  have m2 : (m : Int) ≤ (ps.length : Int) := by omega
  have hlT : (ps.take m).length = m := by rw [List.length_take]; omega
  have hlD : (ps.drop m).length = ps.length - m := List.length_drop
  have hpT : Pts w A (ps.take m) := hp.takeQ m
  have hpD : Pts w (if cap = m then A else A.map (·.add (m * 2))) (ps.drop m) := hp.dropQ hm hl
  have hnD := nil_drop (m := m) hA
  have hl3 : (rot2 m ps).length ≤ 64 := by unfold rot2; simp; omega
  have cX := fun w' h => xhull_b A cap ps (by omega) w' h
  have cX3 : ∀ A3 c3 w', (rot2 m ps).length ≤ c3 → Pts w' A3 (rot2 m ps) → Calls Try.prog 10 #[.slice A3 (rot2 m ps).length c3] w' (HullR w' (hullP ps)) := fun A3 c3 w' hk3 h => by
    have := xhull_b A3 c3 (rot2 m ps) (by omega) w' h; rw [rot2_hull (by omega)] at this; exact this
  have hlen := hullP_len ps
  have cE : ∀ A1 c1 A2 c2 w', Pts w' A1 (hullP ps) → Pts w' A2 (hullP ps) → Calls Try.prog 11 #[.slice A1 (hullP ps).length c1, .slice A2 (hullP ps).length c2] w' fun e w'' => e = .returned (.bool true) ∧ Below w'.heap.size w' w'' := fun A1 c1 A2 c2 w' h1 h2 => by
    have := req_b A1 A2 c1 c2 (hullP ps) (hullP ps) (by omega) (by omega) w' h1 h2; rw [decide_eq_true rfl] at this; exact this
  generalize hullP ps = H at *
  obtain ⟨i0, hi, hz0, hz1, hz2⟩ := info_parts info_vec
  have hrot2 : Hid (rot2 m ps = (ps.drop m ++ ps.take m) ++ ps.take m) := rfl
  clear hw k0 hk
  rcases hcase with ⟨h0, em⟩ | ⟨h0, hm0⟩
  · have j0 : (0 : Int) < (ps.length : Int) := by omega
    have hnz : ((ps.length : Int) == 0) = false := by rw [beq_eq_false_iff_ne]; omega
    go_enter Try.func6, Try.ntmps6
    go_upto_region 8 with (at_builtin; refine wpList_appQ rfl _ _ 22 rfl w.heap.size 27 i0 (.agg #[.int .i64 0, .int .i64 0]) 16 Try.underlying22 hi hz0 hz1 hz2 rfl _ _ _ rfl (World.ownsRow_nil _ _ _ 2) _ _ _ (ps.drop m) rfl hnD hlD (Pts.to hpD (by repeat (first | with_reducible exact Below.refl _ _ | with_reducible assumption | refine bgw ?_ (by first | (simp; done) | (simp; omega) | omega) _ | refine Below.setCell ?_ (by first | exact Nat.le_of_not_lt (by assumption) | (simp; done) | (simp; omega) | omega) _ | refine Below.alloc ?_ (by first | (simp; done) | (simp; omega) | omega) _ | refine Below.drew ?_))) (by unfold maxLen; omega) (by omega) (by first | (simp; done) | (simp; omega) | omega) ?_; intro v2 w2 hown2 hb2)
    all_goals
      have hbW2 : Below w.heap.size w w2 := by first | exact hb2 | exact Below.trans (by repeat (first | with_reducible exact Below.refl _ _ | with_reducible assumption | refine bgw ?_ (by first | (simp; done) | (simp; omega) | omega) _ | refine Below.setCell ?_ (by first | exact Nat.le_of_not_lt (by assumption) | (simp; done) | (simp; omega) | omega) _ | refine Below.alloc ?_ (by first | (simp; done) | (simp; omega) | omega) _ | refine Below.drew ?_)) hb2
      have hz2' := hbW2.size
      go_upto_region 9 with (at_builtin; refine wpList_appQ rfl _ _ 22 rfl w.heap.size 27 i0 (.agg #[.int .i64 0, .int .i64 0]) 16 Try.underlying22 hi hz0 hz1 hz2 rfl _ _ _ rfl (owns_below hown2 (by repeat (first | with_reducible exact Below.refl _ _ | with_reducible assumption | refine bgw ?_ (by first | (simp; done) | (simp; omega) | omega) _ | refine Below.setCell ?_ (by first | exact Nat.le_of_not_lt (by assumption) | (simp; done) | (simp; omega) | omega) _ | refine Below.alloc ?_ (by first | (simp; done) | (simp; omega) | omega) _ | refine Below.drew ?_))) _ _ _ (ps.take m) rfl hA hlT (Pts.to hpT (by repeat (first | with_reducible exact Below.refl _ _ | with_reducible assumption | refine bgw ?_ (by first | (simp; done) | (simp; omega) | omega) _ | refine Below.setCell ?_ (by first | exact Nat.le_of_not_lt (by assumption) | (simp; done) | (simp; omega) | omega) _ | refine Below.alloc ?_ (by first | (simp; done) | (simp; omega) | omega) _ | refine Below.drew ?_))) (by unfold maxLen; omega) (by omega) (by first | (simp; done) | (simp; omega) | omega) ?_; intro v3 w3 hown3 hb3)
      have hbW3 : Below w.heap.size w w3 := Below.trans hbW2 hb3
      have hz3' := hbW3.size
      go_upto_region 10 with (at_builtin; refine wpList_appQ rfl _ _ 22 rfl w.heap.size 27 i0 (.agg #[.int .i64 0, .int .i64 0]) 16 Try.underlying22 hi hz0 hz1 hz2 rfl _ _ _ rfl (owns_below hown3 (by repeat (first | with_reducible exact Below.refl _ _ | with_reducible assumption | refine bgw ?_ (by first | (simp; done) | (simp; omega) | omega) _ | refine Below.setCell ?_ (by first | exact Nat.le_of_not_lt (by assumption) | (simp; done) | (simp; omega) | omega) _ | refine Below.alloc ?_ (by first | (simp; done) | (simp; omega) | omega) _ | refine Below.drew ?_))) _ _ _ (ps.take m) rfl hA hlT (Pts.to hpT (by repeat (first | with_reducible exact Below.refl _ _ | with_reducible assumption | refine bgw ?_ (by first | (simp; done) | (simp; omega) | omega) _ | refine Below.setCell ?_ (by first | exact Nat.le_of_not_lt (by assumption) | (simp; done) | (simp; omega) | omega) _ | refine Below.alloc ?_ (by first | (simp; done) | (simp; omega) | omega) _ | refine Below.drew ?_))) (by unfold maxLen; omega) (by omega) (by first | (simp; done) | (simp; omega) | omega) ?_; intro v4 w4 hown4 hb4)
      have hbW4 : Below w.heap.size w w4 := Below.trans hbW3 hb4
      have hz4' := hbW4.size
      have hown5 : w4.ownsRow w.heap.size 27 2 v4 (0 + (ps.length - m) + m + m) (pv (rot2 m ps)) := by have := hown4; rw [List.nil_append] at this; rw [hrot2.out, pv_append, pv_append]; exact this
      obtain ⟨A3, c3, rfl, -, hle3, hmx3, hP3⟩ := owns_pts hown5
      clear hown2 hown3 hown4 hown5 hb2 hb3 hb4 hbW2 hbW3 hz2' hz3' hrot2 hpT hpD
      generalize rot2 m ps = T at *
      go_wp2_with (first | (go_at_call 9; refine Calls.mono (gw_at (e0 _)) ?_; rintro e w1 ⟨rfl, q, rfl⟩) | (go_at_call 10; (with_reducible_and_instances refine Calls.mono (cX3 A3 c3 _ hle3 (Pts.to hP3 (by repeat (first | with_reducible exact Below.refl _ _ | with_reducible assumption | refine bgw ?_ (by first | (simp; done) | (simp; omega) | omega) _ | refine Below.setCell ?_ (by first | exact Nat.le_of_not_lt (by assumption) | (simp; done) | (simp; omega) | omega) _ | refine Below.alloc ?_ (by first | (simp; done) | (simp; omega) | omega) _ | refine Below.drew ?_)))) ?_); rintro e w1 ⟨⟨A1, cap1, rfl, h11, h12, h13⟩, hb1⟩; obtain ⟨q1, rfl⟩ := gw_of_below hb1; clear hb1) | (go_at_call 10; (with_reducible_and_instances refine Calls.mono (cX _ (Pts.to hp (by repeat (first | with_reducible exact Below.refl _ _ | with_reducible assumption | refine bgw ?_ (by first | (simp; done) | (simp; omega) | omega) _ | refine Below.setCell ?_ (by first | exact Nat.le_of_not_lt (by assumption) | (simp; done) | (simp; omega) | omega) _ | refine Below.alloc ?_ (by first | (simp; done) | (simp; omega) | omega) _ | refine Below.drew ?_)))) ?_); rintro e w1 ⟨⟨A2, cap2, rfl, h21, h22, h23⟩, hbx⟩; obtain ⟨q2, rfl⟩ := gw_of_below hbx; clear hbx) | (go_at_call 11; refine Calls.mono (gw_at (cE _ _ _ _ _ (Pts.to h13 (by repeat (first | with_reducible exact Below.refl _ _ | with_reducible assumption | refine bgw ?_ (by first | (simp; done) | (simp; omega) | omega) _ | refine Below.setCell ?_ (by first | exact Nat.le_of_not_lt (by assumption) | (simp; done) | (simp; omega) | omega) _ | refine Below.alloc ?_ (by first | (simp; done) | (simp; omega) | omega) _ | refine Below.drew ?_))) (Pts.to h23 (by repeat (first | with_reducible exact Below.refl _ _ | with_reducible assumption | refine bgw ?_ (by first | (simp; done) | (simp; omega) | omega) _ | refine Below.setCell ?_ (by first | exact Nat.le_of_not_lt (by assumption) | (simp; done) | (simp; omega) | omega) _ | refine Below.alloc ?_ (by first | (simp; done) | (simp; omega) | omega) _ | refine Below.drew ?_))))) ?_; rintro e w1 ⟨rfl, q3, rfl⟩))
      all_goals
        go_ret
        exact ⟨rfl, Below.trans hbW4 (by repeat (first | with_reducible exact Below.refl _ _ | with_reducible assumption | refine bgw ?_ (by first | (simp; done) | (simp; omega) | omega) _ | refine Below.setCell ?_ (by first | exact Nat.le_of_not_lt (by assumption) | (simp; done) | (simp; omega) | omega) _ | refine Below.alloc ?_ (by first | (simp; done) | (simp; omega) | omega) _ | refine Below.drew ?_))⟩
  · have j0 : ¬ (0 : Int) < (ps.length : Int) := by omega
    subst hm0
    obtain rfl : ps = [] := List.eq_nil_of_length_eq_zero h0
    simp only [List.length_nil, List.drop_nil, List.take_nil] at *
    go_enter Try.func6, Try.ntmps6
    go_upto_region 8 with (at_builtin; refine wpList_appQ rfl _ _ 22 rfl w.heap.size 27 i0 (.agg #[.int .i64 0, .int .i64 0]) 16 Try.underlying22 hi hz0 hz1 hz2 rfl _ _ _ rfl (World.ownsRow_nil _ _ _ 2) _ _ _ [] rfl (by first | exact hA | (intro h; simp at h; first | exact hA h | (simp [hA h]; done) | omega)) rfl (.inl rfl) (by unfold maxLen; omega) (by omega) (by first | (simp; done) | (simp; omega) | omega) ?_; intro v2 w2 hown2 hb2)
    all_goals
      have hbW2 : Below w.heap.size w w2 := by first | exact hb2 | exact Below.trans (by repeat (first | with_reducible exact Below.refl _ _ | with_reducible assumption | refine bgw ?_ (by first | (simp; done) | (simp; omega) | omega) _ | refine Below.setCell ?_ (by first | exact Nat.le_of_not_lt (by assumption) | (simp; done) | (simp; omega) | omega) _ | refine Below.alloc ?_ (by first | (simp; done) | (simp; omega) | omega) _ | refine Below.drew ?_)) hb2
      have hz2' := hbW2.size
      go_upto_region 9 with (at_builtin; refine wpList_appQ rfl _ _ 22 rfl w.heap.size 27 i0 (.agg #[.int .i64 0, .int .i64 0]) 16 Try.underlying22 hi hz0 hz1 hz2 rfl _ _ _ rfl (owns_below hown2 (by repeat (first | with_reducible exact Below.refl _ _ | with_reducible assumption | refine bgw ?_ (by first | (simp; done) | (simp; omega) | omega) _ | refine Below.setCell ?_ (by first | exact Nat.le_of_not_lt (by assumption) | (simp; done) | (simp; omega) | omega) _ | refine Below.alloc ?_ (by first | (simp; done) | (simp; omega) | omega) _ | refine Below.drew ?_))) _ _ _ [] rfl (by first | exact hA | (intro h; simp at h; first | exact hA h | (simp [hA h]; done) | omega)) rfl (.inl rfl) (by unfold maxLen; omega) (by omega) (by first | (simp; done) | (simp; omega) | omega) ?_; intro v3 w3 hown3 hb3)
      have hbW3 : Below w.heap.size w w3 := Below.trans hbW2 hb3
      have hz3' := hbW3.size
      go_upto_region 10 with (at_builtin; refine wpList_appQ rfl _ _ 22 rfl w.heap.size 27 i0 (.agg #[.int .i64 0, .int .i64 0]) 16 Try.underlying22 hi hz0 hz1 hz2 rfl _ _ _ rfl (owns_below hown3 (by repeat (first | with_reducible exact Below.refl _ _ | with_reducible assumption | refine bgw ?_ (by first | (simp; done) | (simp; omega) | omega) _ | refine Below.setCell ?_ (by first | exact Nat.le_of_not_lt (by assumption) | (simp; done) | (simp; omega) | omega) _ | refine Below.alloc ?_ (by first | (simp; done) | (simp; omega) | omega) _ | refine Below.drew ?_))) _ _ _ [] rfl (by first | exact hA | (intro h; simp at h; first | exact hA h | (simp [hA h]; done) | omega)) rfl (.inl rfl) (by unfold maxLen; omega) (by omega) (by first | (simp; done) | (simp; omega) | omega) ?_; intro v4 w4 hown4 hb4)
      have hbW4 : Below w.heap.size w w4 := Below.trans hbW3 hb4
      have hz4' := hbW4.size
      obtain ⟨n4, hown5⟩ : ∃ n4, w4.ownsRow w.heap.size 27 2 v4 n4 (pv (rot2 0 [])) := ⟨_, hown4⟩
      obtain ⟨A3, c3, rfl, -, hle3, hmx3, hP3⟩ := owns_pts hown5
      clear hown2 hown3 hown4 hown5 hb2 hb3 hb4 hbW2 hbW3 hz2' hz3' hrot2 hpT hpD
      generalize rot2 0 [] = T at *
      go_wp2_with (first | (go_at_call 9; refine Calls.mono (gw_at (e0 _)) ?_; rintro e w1 ⟨rfl, q, rfl⟩) | (go_at_call 10; (with_reducible_and_instances refine Calls.mono (cX3 A3 c3 _ hle3 (Pts.to hP3 (by repeat (first | with_reducible exact Below.refl _ _ | with_reducible assumption | refine bgw ?_ (by first | (simp; done) | (simp; omega) | omega) _ | refine Below.setCell ?_ (by first | exact Nat.le_of_not_lt (by assumption) | (simp; done) | (simp; omega) | omega) _ | refine Below.alloc ?_ (by first | (simp; done) | (simp; omega) | omega) _ | refine Below.drew ?_)))) ?_); rintro e w1 ⟨⟨A1, cap1, rfl, h11, h12, h13⟩, hb1⟩; obtain ⟨q1, rfl⟩ := gw_of_below hb1; clear hb1) | (go_at_call 10; (with_reducible_and_instances refine Calls.mono (cX _ (Pts.to hp (by repeat (first | with_reducible exact Below.refl _ _ | with_reducible assumption | refine bgw ?_ (by first | (simp; done) | (simp; omega) | omega) _ | refine Below.setCell ?_ (by first | exact Nat.le_of_not_lt (by assumption) | (simp; done) | (simp; omega) | omega) _ | refine Below.alloc ?_ (by first | (simp; done) | (simp; omega) | omega) _ | refine Below.drew ?_)))) ?_); rintro e w1 ⟨⟨A2, cap2, rfl, h21, h22, h23⟩, hbx⟩; obtain ⟨q2, rfl⟩ := gw_of_below hbx; clear hbx) | (go_at_call 11; refine Calls.mono (gw_at (cE _ _ _ _ _ (Pts.to h13 (by repeat (first | with_reducible exact Below.refl _ _ | with_reducible assumption | refine bgw ?_ (by first | (simp; done) | (simp; omega) | omega) _ | refine Below.setCell ?_ (by first | exact Nat.le_of_not_lt (by assumption) | (simp; done) | (simp; omega) | omega) _ | refine Below.alloc ?_ (by first | (simp; done) | (simp; omega) | omega) _ | refine Below.drew ?_))) (Pts.to h23 (by repeat (first | with_reducible exact Below.refl _ _ | with_reducible assumption | refine bgw ?_ (by first | (simp; done) | (simp; omega) | omega) _ | refine Below.setCell ?_ (by first | exact Nat.le_of_not_lt (by assumption) | (simp; done) | (simp; omega) | omega) _ | refine Below.alloc ?_ (by first | (simp; done) | (simp; omega) | omega) _ | refine Below.drew ?_))))) ?_; rintro e w1 ⟨rfl, q3, rfl⟩))
      all_goals
        go_ret
        exact ⟨rfl, Below.trans hbW4 (by repeat (first | with_reducible exact Below.refl _ _ | with_reducible assumption | refine bgw ?_ (by first | (simp; done) | (simp; omega) | omega) _ | refine Below.setCell ?_ (by first | exact Nat.le_of_not_lt (by assumption) | (simp; done) | (simp; omega) | omega) _ | refine Below.alloc ?_ (by first | (simp; done) | (simp; omega) | omega) _ | refine Below.drew ?_))⟩

end Go.Proofs.Ytncijpaooiopfaa
