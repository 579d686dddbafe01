/- Package polygon, the landed code: Contains, ShortestEdge, exactDot, Support. -/
import Derived.Test.YtncijpaooiopfaaPga
set_option linter.unusedVariables false
namespace Go.Proofs.Ytncijpaooiopfaa
open Go.RowKit Fx

set_option maxHeartbeats 4000000 in
theorem xdot_b (a1 a2 x y : Int) (w : World) : Calls Try.prog 46 #[.agg #[.int .i64 a1, .int .i64 a2], .agg #[.int .i64 x, .int .i64 y]] w fun e w' => e = .returned (.int .i64 (dots (a1, a2) x y)) ∧ Below w.heap.size w w' := by
  have hd := dots_in (a1, a2) x y
  have hD : Hid (dots (a1, a2) x y = sat a1 * sat x + sat a2 * sat y) := rfl
  rw [hD.out] at hd ⊢
  have a0 := sat_le a1; have a1' := sat_ge a1; have b0 := sat_le a2; have b1 := sat_ge a2
  have c0 := sat_le x; have c1 := sat_ge x; have d0 := sat_le y; have d1 := sat_ge y
  have m1 := mul_between (a := sat a1) (b := sat x) (A := 536870912) (B := 536870912) (by omega) (by omega) (by omega) (by omega)
  have m2 := mul_between (a := sat a2) (b := sat y) (A := 536870912) (B := 536870912) (by omega) (by omega) (by omega) (by omega)
  have s1 := fun w' => sat_b a1 w'
  have s2 := fun w' => sat_b a2 w'
  have s3 := fun w' => sat_b x w'
  have s4 := fun w' => sat_b y w'
  clear hD
  generalize sat a1 = u1 at *
  generalize sat a2 = u2 at *
  generalize sat x = v1 at *
  generalize sat y = v2 at *
  go_enter Try.func46, Try.ntmps46
  go_wp2_with fail
  refine wp_region_gw (by kernel_rfl) (by kernel_rfl) ?_
  repeat (go_big_quiet_step ((first | (go_at_call 65; with_reducible_and_instances exact gw_call (s1 _)) | (go_at_call 65; with_reducible_and_instances exact gw_call (s2 _)) | (go_at_call 65; with_reducible_and_instances exact gw_call (s3 _)) | (go_at_call 65; with_reducible_and_instances exact gw_call (s4 _)))))
  refine wpQuiet_nil ?_
  intro w1 hw1
  obtain ⟨q, rfl⟩ := hw1
  go_wp2_with fail
  go_ret
  exact ⟨rfl, (by repeat (first | with_reducible exact Below.refl _ _ | with_reducible assumption | refine bgw ?_ (by first | (simp; done) | (simp; omega) | omega) _ | refine Below.setCell ?_ (by first | exact Nat.le_of_not_lt (by assumption) | (simp; done) | (simp; omega) | omega) _ | refine Below.alloc ?_ (by first | (simp; done) | (simp; omega) | omega) _ | refine Below.drew ?_))⟩

set_option maxRecDepth 100000 in
set_option maxHeartbeats 8000000 in
theorem xcont_b (A : Option Addr) (cap : Nat) (ps : List (Int × Int)) (x y : Int) (hl : ps.length ≤ 4611686018427387904) (w : World) (ha : Pts w A ps) (hk : ps.length ≤ cap := by first | omega | decide) : Calls Try.prog 12 #[.slice A ps.length cap, .agg #[.int .i64 x, .int .i64 y]] w fun e w' => e = .returned (.bool (cont ps x y)) ∧ Below w.heap.size w w' := by
  have cV := fun w' h => xconv_b A cap ps hl w' h hk
  obtain ⟨R, hR0⟩ : ∃ R, cont ps x y = R := ⟨_, rfl⟩
  have hR1 : Hid (R = true ↔ conP ps x y) := by show _ ↔ _; rw [← hR0]; simp [cont]
  rw [hR0]
  clear hR0
  cases hR : cvx ps
  focus
    rw [hR] at cV
    obtain rfl : R = false := by rw [Bool.eq_false_iff]; intro e; have := cvx_iff.2 (hR1.out.1 e).1; rw [hR] at this; cases this
    clear hR hR1
    go_enter Try.func12, Try.ntmps12
    go_wp2_with (go_at_call 13; refine Calls.mono (gw_at (cV _ (Pts.to ha (by repeat (first | with_reducible exact Below.refl _ _ | with_reducible assumption | refine bgw ?_ (by first | (simp; done) | (simp; omega) | omega) _ | refine Below.setCell ?_ (by first | exact Nat.le_of_not_lt (by assumption) | (simp; done) | (simp; omega) | omega) _ | refine Below.alloc ?_ (by first | (simp; done) | (simp; omega) | omega) _ | refine Below.drew ?_))))) ?_; rintro e w1 ⟨rfl, q, rfl⟩)
    go_ret
    exact ⟨rfl, (by repeat (first | with_reducible exact Below.refl _ _ | with_reducible assumption | refine bgw ?_ (by first | (simp; done) | (simp; omega) | omega) _ | refine Below.setCell ?_ (by first | exact Nat.le_of_not_lt (by assumption) | (simp; done) | (simp; omega) | omega) _ | refine Below.alloc ?_ (by first | (simp; done) | (simp; omega) | omega) _ | refine Below.drew ?_))⟩
  rw [hR] at cV
  have hcv2 : Hid (cvxP ps) := cvx_iff.1 hR
  obtain ⟨n3, n8, -, -⟩ := hcv2.out
  have n3' : (3 : Int) ≤ (ps.length : Int) := by omega
  have n8' : (ps.length : Int) ≤ 8 := by omega
  clear hR
  go_enter Try.func12, Try.ntmps12
  go_wp2_with (go_at_call 13; refine Calls.mono (gw_at (cV _ (Pts.to ha (by repeat (first | with_reducible exact Below.refl _ _ | with_reducible assumption | refine bgw ?_ (by first | (simp; done) | (simp; omega) | omega) _ | refine Below.setCell ?_ (by first | exact Nat.le_of_not_lt (by assumption) | (simp; done) | (simp; omega) | omega) _ | refine Below.alloc ?_ (by first | (simp; done) | (simp; omega) | omega) _ | refine Below.drew ?_))))) ?_; rintro e w1 ⟨rfl, q, rfl⟩)
  refine wp_named ?_
  intro W hW
  have kV : blk W w.heap.size #[.int .i64 x, .int .i64 y] 27 := by rw [hW]; exact (by repeat (first | with_reducible exact blk_new _ _ _ | ((with_reducible refine blk_at ?_); (simp; done)) | with_reducible apply blk_alloc | with_reducible apply blk_gw | with_reducible apply blk_drew))
  have hbW : Below w.heap.size w W := by rw [hW]; exact (by repeat (first | with_reducible exact Below.refl _ _ | with_reducible assumption | refine bgw ?_ (by first | (simp; done) | (simp; omega) | omega) _ | refine Below.setCell ?_ (by first | exact Nat.le_of_not_lt (by assumption) | (simp; done) | (simp; omega) | omega) _ | refine Below.alloc ?_ (by first | (simp; done) | (simp; omega) | omega) _ | refine Below.drew ?_))
  clear hW cV
  have hszW := hbW.size
  go_loopw [13] (fun i wr => ∃ k : Nat, k ≤ ps.length ∧ i = .int .i64 (k : Int) ∧ Hid (∀ j, j < k → or3 (hp' ps j) (hp' ps (j + 1)) (sat x, sat y) ≠ -1) ∧ ∃ p, wr = gw W p)
    (fun i _ => (ps.length - intOf i).toNat)
  case atStart => exact ⟨0, by omega, rfl, fun j h => absurd h (by omega), ⟨⟨W.drawn, #[]⟩, (gw_zero W).symm⟩⟩
  case round =>
    obtain ⟨k, hkk, rfl, hall, p, rfl⟩ := hrel
    have kV2 := blk_gw (p := p) kV
    have okV2 := blk_older kV2
    have ckV2_0 : _ = some _ := blk_cell kV2 0
    have ckV2_1 : _ = some _ := blk_cell kV2 1
    have fkV2_0 := blk_free kV2 0
    have fkV2_1 := blk_free kV2 1
    by_cases hlt : k < ps.length
    · have i0 : (0 : Int) ≤ (k : Int) := by omega
      have i1 : (k : Int) < (ps.length : Int) := by omega
      have cE := fun w' h => xedge_b A cap ps k hlt (by omega) w' h
      have hO : orient (hp' ps k).1 (hp' ps k).2 (hp' ps (k + 1)).1 (hp' ps (k + 1)).2 x y = or3 (hp' ps k) (hp' ps (k + 1)) (sat x, sat y) := by
        unfold or3 orient det; simp only [sat_sat]
      have cO : ∀ w', Calls Try.prog 34 #[.agg #[.int .i64 (hp' ps k).1, .int .i64 (hp' ps k).2], .agg #[.int .i64 (hp' ps (k + 1)).1, .int .i64 (hp' ps (k + 1)).2], .agg #[.int .i64 x, .int .i64 y]] w' fun e w'' => e = .returned (.int .i64 (or3 (hp' ps k) (hp' ps (k + 1)) (sat x, sat y))) ∧ Below w'.heap.size w' w'' := fun w' => by rw [← hO]; exact orient_b _ _ _ _ _ _ w'
      have hyes : or3 (hp' ps k) (hp' ps (k + 1)) (sat x, sat y) ≠ -1 → Hid (∀ j, j < k + 1 → or3 (hp' ps j) (hp' ps (j + 1)) (sat x, sat y) ≠ -1) := fun g j h => by
        rcases (by omega : j < k ∨ j = k) with h1 | rfl
        · exact hall.out j h1
        · exact g
      have hno : or3 (hp' ps k) (hp' ps (k + 1)) (sat x, sat y) = -1 → R = false := fun g => by
        rw [Bool.eq_false_iff]; intro e; exact (hR1.out.1 e).2 k hlt g
      clear hall hR1 hcv2 hO
      generalize or3 (hp' ps k) (hp' ps (k + 1)) (sat x, sat y) = O at *
      generalize (hp' ps k).1 = fx at *
      generalize (hp' ps k).2 = fy at *
      generalize (hp' ps (k + 1)).1 = tx at *
      generalize (hp' ps (k + 1)).2 = ty at *
      by_cases c : O = -1
      · obtain rfl := hno c
        have b1 : (O == -1) = true := by rw [beq_iff_eq]; exact c
        clear hyes hno c
        go_wp2_with (first | (go_at_call 33; refine Calls.mono (gw_at (cE _ (Pts.to ha (Below.trans hbW (by repeat (first | with_reducible exact Below.refl _ _ | with_reducible assumption | refine bgw ?_ (by first | (simp; done) | (simp; omega) | omega) _ | refine Below.setCell ?_ (by first | exact Nat.le_of_not_lt (by assumption) | (simp; done) | (simp; omega) | omega) _ | refine Below.alloc ?_ (by first | (simp; done) | (simp; omega) | omega) _ | refine Below.drew ?_)))))) ?_; rintro e w1 ⟨rfl, q, rfl⟩) | (go_at_call 34; refine Calls.mono (gw_at (cO _)) ?_; rintro e w1 ⟨rfl, q2, rfl⟩))
        refine post_nmd ?_
        intro Z hZ
        have hbZ : Below w.heap.size w Z := by rw [hZ]; exact Below.trans hbW (by repeat (first | with_reducible exact Below.refl _ _ | with_reducible assumption | refine bgw ?_ (by first | (simp; done) | (simp; omega) | omega) _ | refine Below.setCell ?_ (by first | exact Nat.le_of_not_lt (by assumption) | (simp; done) | (simp; omega) | omega) _ | refine Below.alloc ?_ (by first | (simp; done) | (simp; omega) | omega) _ | refine Below.drew ?_))
        clear hZ
        exact bodyPost_ret (v := .bool false) (by simp [results, Try.results12, go_sem]) rfl ⟨rfl, hbZ⟩
      · have hg := hyes c
        have b1 : (O == -1) = false := by rw [beq_eq_false_iff_ne]; exact c
        clear hyes hno c
        go_wp2_with (first | (go_at_call 33; refine Calls.mono (gw_at (cE _ (Pts.to ha (Below.trans hbW (by repeat (first | with_reducible exact Below.refl _ _ | with_reducible assumption | refine bgw ?_ (by first | (simp; done) | (simp; omega) | omega) _ | refine Below.setCell ?_ (by first | exact Nat.le_of_not_lt (by assumption) | (simp; done) | (simp; omega) | omega) _ | refine Below.alloc ?_ (by first | (simp; done) | (simp; omega) | omega) _ | refine Below.drew ?_)))))) ?_; rintro e w1 ⟨rfl, q, rfl⟩) | (go_at_call 34; refine Calls.mono (gw_at (cO _)) ?_; rintro e w1 ⟨rfl, q2, rfl⟩))
        exact ⟨⟨k + 1, by omega, by go_num, hg, gw_of_below (by repeat (first | with_reducible exact Below.refl _ _ | with_reducible assumption | refine bgw ?_ (by first | (simp; done) | (simp; omega) | omega) _ | refine Below.setCell ?_ (by first | exact Nat.le_of_not_lt (by assumption) | (simp; done) | (simp; omega) | omega) _ | refine Below.alloc ?_ (by first | (simp; done) | (simp; omega) | omega) _ | refine Below.drew ?_))⟩, by (try go_num); simp [intOf]; (try omega)⟩
    · obtain rfl : k = ps.length := by omega
      have i1 : ¬ (ps.length : Int) < (ps.length : Int) := by omega
      obtain rfl : R = true := hR1.out.2 ⟨hcv2.out, fun i hi => hall.out i hi⟩
      clear hall hR1 hcv2
      go_wp2_with fail
      refine post_nmd ?_
      intro Z hZ
      have hbZ : Below w.heap.size w Z := by rw [hZ]; exact Below.trans hbW (by repeat (first | with_reducible exact Below.refl _ _ | with_reducible assumption | refine bgw ?_ (by first | (simp; done) | (simp; omega) | omega) _ | refine Below.setCell ?_ (by first | exact Nat.le_of_not_lt (by assumption) | (simp; done) | (simp; omega) | omega) _ | refine Below.alloc ?_ (by first | (simp; done) | (simp; omega) | omega) _ | refine Below.drew ?_))
      clear hZ
      exact bodyPost_ret (v := .bool true) (by simp [results, Try.results12, go_sem]) rfl ⟨rfl, hbZ⟩

/-- The shortest edge so far, as the program keeps it: the largest number ahead of the first. -/
def shm (ps : List Pt) : Nat → Int
  | 0 => 536870911
  | k + 1 => min (shm ps k) (edg ps k)
theorem edg_nn (ps : List Pt) (k : Nat) : 0 ≤ edg ps k := (vlen_is _ _).1
theorem sub_inr' {a b : Int} (ha : -1048576 ≤ a ∧ a ≤ 1048576) (hb : -1048576 ≤ b ∧ b ≤ 1048576) : sub a b = a - b := by
  unfold sub; rw [inr_sat ha.1 ha.2, inr_sat hb.1 hb.2]; exact sat_id (by omega) (by omega)
theorem edg_le {ps : List Pt} (h0 : 0 < ps.length) (hin : ∀ p ∈ ps, inrP p) (k : Nat) : edg ps k ≤ 536870911 := by
  have a := hin _ (hp_mem (h := ps) k h0); have b := hin _ (hp_mem (h := ps) (k + 1) h0)
  unfold inrP at a b
  have h := vlen_sum (sub (hp' ps (k + 1)).1 (hp' ps k).1) (sub (hp' ps (k + 1)).2 (hp' ps k).2)
  unfold edg
  rw [sub_inr' (a := (hp' ps (k + 1)).1) (by omega) (by omega), sub_inr' (a := (hp' ps (k + 1)).2) (by omega) (by omega), sat_id (x := (hp' ps (k + 1)).1 - (hp' ps k).1) (by omega) (by omega), sat_id (x := (hp' ps (k + 1)).2 - (hp' ps k).2) (by omega) (by omega)] at h
  rw [sub_inr' (a := (hp' ps (k + 1)).1) (by omega) (by omega), sub_inr' (a := (hp' ps (k + 1)).2) (by omega) (by omega)]
  omega
theorem shm_shr (ps : List Pt) (hb : ∀ k, edg ps k ≤ 536870911) : ∀ k, 0 < k → shm ps k = shr ps k ∧ 0 ≤ shr ps k
  | 0, h => absurd h (by omega)
  | 1, _ => by
    have h1 := hb 0
    have h2 := edg_nn ps 0
    show min 536870911 (edg ps 0) = (if (-1 : Int) < 0 ∨ edg ps 0 < -1 then edg ps 0 else -1) ∧ 0 ≤ (if (-1 : Int) < 0 ∨ edg ps 0 < -1 then edg ps 0 else -1)
    rw [if_pos (.inl (by omega))]
    omega
  | k + 2, _ => by
    obtain ⟨e, h0⟩ := shm_shr ps hb (k + 1) (by omega)
    have h2 := edg_nn ps (k + 1)
    show min (shm ps (k + 1)) (edg ps (k + 1)) = (if shr ps (k + 1) < 0 ∨ edg ps (k + 1) < shr ps (k + 1) then edg ps (k + 1) else shr ps (k + 1)) ∧ 0 ≤ (if shr ps (k + 1) < 0 ∨ edg ps (k + 1) < shr ps (k + 1) then edg ps (k + 1) else shr ps (k + 1))
    rw [e]
    split <;> omega

set_option maxRecDepth 100000 in
set_option maxHeartbeats 8000000 in
theorem xshort_b (A : Option Addr) (cap : Nat) (ps : List (Int × Int)) (hl : ps.length ≤ 4611686018427387904) (w : World) (ha : Pts w A ps) (hk : ps.length ≤ cap := by first | omega | decide) : Calls Try.prog 19 #[.slice A ps.length cap] w fun e w' => e = .returned (.int .i64 (shortP ps)) ∧ Below w.heap.size w w' := by
  have cV := fun w' h => xconv_b A cap ps hl w' h hk
  unfold shortP
  cases hR : cvx ps
  focus
    rw [hR] at cV
    rw [if_neg (by simp)]
    clear hR
    go_enter Try.func19, Try.ntmps19
    go_wp2_with (go_at_call 13; refine Calls.mono (gw_at (cV _ (Pts.to ha (by repeat (first | with_reducible exact Below.refl _ _ | with_reducible assumption | refine bgw ?_ (by first | (simp; done) | (simp; omega) | omega) _ | refine Below.setCell ?_ (by first | exact Nat.le_of_not_lt (by assumption) | (simp; done) | (simp; omega) | omega) _ | refine Below.alloc ?_ (by first | (simp; done) | (simp; omega) | omega) _ | refine Below.drew ?_))))) ?_; rintro e w1 ⟨rfl, q, rfl⟩)
    go_ret
    exact ⟨rfl, (by repeat (first | with_reducible exact Below.refl _ _ | with_reducible assumption | refine bgw ?_ (by first | (simp; done) | (simp; omega) | omega) _ | refine Below.setCell ?_ (by first | exact Nat.le_of_not_lt (by assumption) | (simp; done) | (simp; omega) | omega) _ | refine Below.alloc ?_ (by first | (simp; done) | (simp; omega) | omega) _ | refine Below.drew ?_))⟩
  rw [hR] at cV
  rw [if_pos rfl]
  obtain ⟨n3, n8, hin, -⟩ := cvx_iff.1 hR
  have hE : ∀ k, edg ps k ≤ 536870911 := fun k => edg_le (by omega) hin k
  rw [← (shm_shr ps hE ps.length (by omega)).1]
  have n3' : (3 : Int) ≤ (ps.length : Int) := by omega
  have n8' : (ps.length : Int) ≤ 8 := by omega
  clear hR hin hE
  go_enter Try.func19, Try.ntmps19
  go_wp2_with (go_at_call 13; refine Calls.mono (gw_at (cV _ (Pts.to ha (by repeat (first | with_reducible exact Below.refl _ _ | with_reducible assumption | refine bgw ?_ (by first | (simp; done) | (simp; omega) | omega) _ | refine Below.setCell ?_ (by first | exact Nat.le_of_not_lt (by assumption) | (simp; done) | (simp; omega) | omega) _ | refine Below.alloc ?_ (by first | (simp; done) | (simp; omega) | omega) _ | refine Below.drew ?_))))) ?_; rintro e w1 ⟨rfl, q, rfl⟩)
  clear cV
  go_loopw [3, 12] (fun s i wr => ∃ k : Nat, k ≤ ps.length ∧ s = .int .i64 (shm ps k) ∧ i = .int .i64 (k : Int) ∧ ∃ p, wr = gw w p)
    (fun _ i _ => (ps.length - intOf i).toNat)
  case atStart => exact ⟨0, by omega, rfl, rfl, ⟨_, rfl⟩⟩
  case round =>
    obtain ⟨k, hkk, rfl, rfl, p, rfl⟩ := hrel
    by_cases hlt : k < ps.length
    · have i0 : (0 : Int) ≤ (k : Int) := by omega
      have i1 : (k : Int) < (ps.length : Int) := by omega
      have cE := fun w' h => xedge_b A cap ps k hlt (by omega) w' h
      have hS : Hid (shm ps (k + 1) = min (shm ps k) (edg ps k)) := rfl
      have cS : ∀ w', Calls Try.prog 43 #[.agg #[.int .i64 (hp' ps (k + 1)).1, .int .i64 (hp' ps (k + 1)).2], .agg #[.int .i64 (hp' ps k).1, .int .i64 (hp' ps k).2]] w' fun e w'' => e = .returned (.agg #[.int .i64 (sub (hp' ps (k + 1)).1 (hp' ps k).1), .int .i64 (sub (hp' ps (k + 1)).2 (hp' ps k).2)]) ∧ Below w'.heap.size w' w'' := fun w' => vsub_b _ _ _ _ w'
      have cL : ∀ w', Calls Try.prog 42 #[.agg #[.int .i64 (sub (hp' ps (k + 1)).1 (hp' ps k).1), .int .i64 (sub (hp' ps (k + 1)).2 (hp' ps k).2)]] w' fun e w'' => e = .returned (.int .i64 (edg ps k)) ∧ Below w'.heap.size w' w'' := fun w' => vlen_b _ _ w'
      generalize edg ps k = E at *
      generalize sub (hp' ps (k + 1)).1 (hp' ps k).1 = u at *
      generalize sub (hp' ps (k + 1)).2 (hp' ps k).2 = v at *
      generalize (hp' ps k).1 = fx at *
      generalize (hp' ps k).2 = fy at *
      generalize (hp' ps (k + 1)).1 = tx at *
      generalize (hp' ps (k + 1)).2 = ty at *
      generalize shm ps k = s at *
      go_wp2_with (first | (go_at_call 33; refine Calls.mono (gw_at (cE _ (Pts.to ha (by repeat (first | with_reducible exact Below.refl _ _ | with_reducible assumption | refine bgw ?_ (by first | (simp; done) | (simp; omega) | omega) _ | refine Below.setCell ?_ (by first | exact Nat.le_of_not_lt (by assumption) | (simp; done) | (simp; omega) | omega) _ | refine Below.alloc ?_ (by first | (simp; done) | (simp; omega) | omega) _ | refine Below.drew ?_))))) ?_; rintro e w1 ⟨rfl, q, rfl⟩) | (go_at_call 43; refine Calls.mono (gw_at (cS _)) ?_; rintro e w1 ⟨rfl, q2, rfl⟩) | (go_at_call 42; refine Calls.mono (gw_at (cL _)) ?_; rintro e w1 ⟨rfl, q3, rfl⟩))
      exact ⟨⟨k + 1, by omega, by rw [hS.out], by go_num, gw_of_below (by repeat (first | with_reducible exact Below.refl _ _ | with_reducible assumption | refine bgw ?_ (by first | (simp; done) | (simp; omega) | omega) _ | refine Below.setCell ?_ (by first | exact Nat.le_of_not_lt (by assumption) | (simp; done) | (simp; omega) | omega) _ | refine Below.alloc ?_ (by first | (simp; done) | (simp; omega) | omega) _ | refine Below.drew ?_))⟩, by (try go_num); simp [intOf]; (try omega)⟩
    · obtain rfl : k = ps.length := by omega
      have i1 : ¬ (ps.length : Int) < (ps.length : Int) := by omega
      go_wp2_with fail
      go_ret
      exact ⟨rfl, (by repeat (first | with_reducible exact Below.refl _ _ | with_reducible assumption | refine bgw ?_ (by first | (simp; done) | (simp; omega) | omega) _ | refine Below.setCell ?_ (by first | exact Nat.le_of_not_lt (by assumption) | (simp; done) | (simp; omega) | omega) _ | refine Below.alloc ?_ (by first | (simp; done) | (simp; omega) | omega) _ | refine Below.drew ?_))⟩

set_option maxRecDepth 100000 in
set_option maxHeartbeats 8000000 in
theorem xsup_b (A : Option Addr) (cap : Nat) (ps : List (Int × Int)) (x y : Int) (hl : ps.length ≤ 4611686018427387904) (w : World) (ha : Pts w A ps) : Calls Try.prog 22 #[.slice A ps.length cap, .agg #[.int .i64 x, .int .i64 y]] w fun e w' => e = .returned (.int .i64 (supP ps x y)) ∧ Below w.heap.size w w' := by
  obtain ⟨S, hS0⟩ : ∃ S, Hid (supP ps x y = S) := ⟨_, rfl⟩
  rw [hS0.out]
  have hS1 : ∀ k, Hid (sup ps x y (k + 1) = if (sup ps x y k).1 < 0 ∨ (sup ps x y k).2 < dots (hp' ps k) x y then ((k : Int), dots (hp' ps k) x y) else sup ps x y k) := fun k => rfl
  go_enter Try.func22, Try.ntmps22
  go_wp2_with fail
  refine wp_named ?_
  intro W hW
  have kE : blk W w.heap.size #[.int .i64 x, .int .i64 y] 27 := by rw [hW]; exact (by repeat (first | with_reducible exact blk_new _ _ _ | ((with_reducible refine blk_at ?_); (simp; done)) | with_reducible apply blk_alloc | with_reducible apply blk_gw | with_reducible apply blk_drew))
  have hbW : Below w.heap.size w W := by rw [hW]; exact (by repeat (first | with_reducible exact Below.refl _ _ | with_reducible assumption | refine bgw ?_ (by first | (simp; done) | (simp; omega) | omega) _ | refine Below.setCell ?_ (by first | exact Nat.le_of_not_lt (by assumption) | (simp; done) | (simp; omega) | omega) _ | refine Below.alloc ?_ (by first | (simp; done) | (simp; omega) | omega) _ | refine Below.drew ?_))
  clear hW
  go_loopw [5, 6, 12] (fun s m i wr => ∃ k : Nat, k ≤ ps.length ∧ s = .int .i64 (sup ps x y k).1 ∧ m = .int .i64 (sup ps x y k).2 ∧ i = .int .i64 (k : Int) ∧ ∃ p, wr = gw W p)
    (fun _ _ i _ => (ps.length - intOf i).toNat)
  case atStart => exact ⟨0, by omega, rfl, rfl, rfl, ⟨⟨W.drawn, #[]⟩, (gw_zero W).symm⟩⟩
  case round =>
    obtain ⟨k, hk, rfl, rfl, rfl, p, rfl⟩ := hrel
    have hszW := hbW.size
    by_cases hlt : k < ps.length
    · have i0 : (0 : Int) ≤ (k : Int) := by omega
      have i1 : (k : Int) < (ps.length : Int) := by omega
      obtain ⟨b, off, rfl, hc⟩ := pts_open0 (Pts.to ha (Below.trans hbW ((below_gw W p).mono hbW.size))) (by omega)
      obtain ⟨d0, d1⟩ := hc k hlt
      have ob := older_of_cell d0
      have kE2 := blk_gw (p := p) kE
      have okE2 := blk_older kE2
      have ckE2_0 : _ = some _ := blk_cell kE2 0
      have ckE2_1 : _ = some _ := blk_cell kE2 1
      have fkE2_0 := blk_free kE2 0
      have fkE2_1 := blk_free kE2 1
      have cD := fun w' => xdot_b ps[k].1 ps[k].2 x y w'
      have hs := (hS1 k).out
      rw [hp_get hlt] at hs
      clear hc hS1
      generalize ps[k] = v at *
      obtain ⟨xa, xb⟩ := v
      dsimp only at cD d0 d1
      generalize dots (xa, xb) x y = D at *
      generalize hsk : sup ps x y k = sk at *
      obtain ⟨s1, s2⟩ := sk
      dsimp only at hs
      clear hsk
      by_cases c1 : s1 < 0
      · rw [if_pos (.inl c1)] at hs
        have hv : Hid (sup ps x y (k + 1) = ((k : Int), D)) := hs
        clear hs
        go_wp2_with (go_at_call 46; refine Calls.mono (gw_at (cD _)) ?_; rintro e w1 ⟨rfl, q, rfl⟩)
        refine ⟨⟨k + 1, by omega, by rw [hv.out], by rw [hv.out], by go_num, gw_of_below (by repeat (first | with_reducible exact Below.refl _ _ | with_reducible assumption | refine bgw ?_ (by first | (simp; done) | (simp; omega) | omega) _ | refine Below.setCell ?_ (by first | exact Nat.le_of_not_lt (by assumption) | (simp; done) | (simp; omega) | omega) _ | refine Below.alloc ?_ (by first | (simp; done) | (simp; omega) | omega) _ | refine Below.drew ?_))⟩, by (try go_num); simp [intOf]; (try omega)⟩
      · by_cases c2 : s2 < D
        · rw [if_pos (.inr c2)] at hs
          have hv : Hid (sup ps x y (k + 1) = ((k : Int), D)) := hs
          clear hs
          go_wp2_with (go_at_call 46; refine Calls.mono (gw_at (cD _)) ?_; rintro e w1 ⟨rfl, q, rfl⟩)
          refine ⟨⟨k + 1, by omega, by rw [hv.out], by rw [hv.out], by go_num, gw_of_below (by repeat (first | with_reducible exact Below.refl _ _ | with_reducible assumption | refine bgw ?_ (by first | (simp; done) | (simp; omega) | omega) _ | refine Below.setCell ?_ (by first | exact Nat.le_of_not_lt (by assumption) | (simp; done) | (simp; omega) | omega) _ | refine Below.alloc ?_ (by first | (simp; done) | (simp; omega) | omega) _ | refine Below.drew ?_))⟩, by (try go_num); simp [intOf]; (try omega)⟩
        · rw [if_neg (by omega)] at hs
          have hv : Hid (sup ps x y (k + 1) = (s1, s2)) := hs
          clear hs
          go_wp2_with (go_at_call 46; refine Calls.mono (gw_at (cD _)) ?_; rintro e w1 ⟨rfl, q, rfl⟩)
          refine ⟨⟨k + 1, by omega, by rw [hv.out], by rw [hv.out], by go_num, gw_of_below (by repeat (first | with_reducible exact Below.refl _ _ | with_reducible assumption | refine bgw ?_ (by first | (simp; done) | (simp; omega) | omega) _ | refine Below.setCell ?_ (by first | exact Nat.le_of_not_lt (by assumption) | (simp; done) | (simp; omega) | omega) _ | refine Below.alloc ?_ (by first | (simp; done) | (simp; omega) | omega) _ | refine Below.drew ?_))⟩, by (try go_num); simp [intOf]; (try omega)⟩
    · obtain rfl : k = ps.length := by omega
      have i1 : ¬ (ps.length : Int) < (ps.length : Int) := by omega
      have e : (sup ps x y ps.length).1 = S := hS0.out
      rw [e]
      clear e hS1
      go_wp2_with fail
      refine post_nmd ?_
      intro Z hZ
      have hbZ : Below w.heap.size w Z := by rw [hZ]; exact Below.trans hbW (by repeat (first | with_reducible exact Below.refl _ _ | with_reducible assumption | refine bgw ?_ (by first | (simp; done) | (simp; omega) | omega) _ | refine Below.setCell ?_ (by first | exact Nat.le_of_not_lt (by assumption) | (simp; done) | (simp; omega) | omega) _ | refine Below.alloc ?_ (by first | (simp; done) | (simp; omega) | omega) _ | refine Below.drew ?_))
      clear hZ
      exact bodyPost_ret (v := .int .i64 S) (by simp [results, Try.results22, go_sem]) rfl ⟨rfl, hbZ⟩

end Go.Proofs.Ytncijpaooiopfaa
