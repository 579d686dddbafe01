/- Contracts of package shape, the landed code: the tests, Validate, Equal, Clone.
Contracts of package shape, the landed code: Vertices, Bounds, ContainsPoint, Support, BoundingRadius.
Contracts of package shape, the landed code: Vertices, BoundingRadius, Equal, Clone.
Contracts of package shape, the landed code: Bounds, Support, ContainsPoint. -/
import Derived.Test.YtaahgblkmajceaaGreatCo9
import Derived.Test.YtaahgblkmajceaaGreatCoB
import Derived.Test.YtaahgblkmajceaaGreatCo4
import Derived.Test.YtaahgblkmajceaaGreatCo6

set_option linter.unusedVariables false
namespace Go.Proofs.YtaahgblkmajceaaGreat
open Go.RowKit Fx

def known (K : Int) : Bool := decide (K = 1) || decide (K = 2) || decide (K = 3)
theorem known_of {K : Int} (h : known K = true) : K = 1 ∨ K = 2 ∨ K = 3 := by unfold known at h; simp at h; omega
theorem known_not {K : Int} (h : known K = false) : K < 1 ∨ 3 < K := by unfold known at h; simp at h; omega
def bet (x l h : Int) : Bool := decide (l ≤ x) && decide (x ≤ h)
def rngS (K R : Int) (ps : List (Int × Int)) : Bool := allIn ps && !radbad K R
def wellS (K : Int) (ps : List (Int × Int)) : Bool := !capbad K ps && !polbad K ps
theorem valS_four (K R : Int) (ps : List (Int × Int)) : valS K R ps = if known K = false then 10 else if cntok K ps.length = false then 11 else if rngS K R ps = false then 6 else if wellS K ps = false then 12 else 0 := by
  unfold valS
  by_cases h1 : K < 1 ∨ 3 < K
  · rw [if_pos h1, if_pos (c := known K = false) (by unfold known; simp; omega)]
  · rw [if_neg h1, if_neg (c := known K = false) (by unfold known; simp; omega)]
    by_cases h2 : cntok K ps.length = false
    · rw [if_pos h2, if_pos h2]
    · rw [if_neg h2, if_neg h2]
      unfold rngS wellS allIn
      by_cases h3 : ∀ p ∈ ps, inrP p
      · rw [if_neg (fun h => h h3), decide_eq_true h3]
        cases radbad K R <;> cases capbad K ps <;> cases polbad K ps <;> rfl
      · rw [if_pos h3, decide_eq_false h3]; rfl

theorem yknow_b (K : Int) (w : World) : Calls Tryz.prog 126 #[.int .i64 K] w fun e w' => e = .returned (.bool (known K)) ∧ Below w.heap.size w w' := by
  go_enter Tryz.func126, Tryz.ntmps126
  go_wp2_with fail
  all_goals (go_ret; refine ⟨?_, bBel⟩; first | rfl | (simp [known]; done) | (simp [known]; omega) | (simp [known]; rw [Bool.eq_iff_iff]; first | (simp; done) | (simp; omega)))

theorem ycount_b (K R : Int) (A : Option Addr) (cap n : Nat) (hK : known K = true) (w : World) : Calls Tryz.prog 127 #[.agg #[.int .i64 K, .int .i64 R, .slice A n cap]] w fun e w' => e = .returned (.bool (cntok K n)) ∧ Below w.heap.size w w' := by
  have h3 := known_of hK
  clear hK
  rcases h3 with rfl | rfl | rfl
  · have e : cntok 1 n = ((n : Int) == 1) := by unfold cntok; rw [if_neg (by decide), Bool.eq_iff_iff]; simp
    rw [e]
    go_enter Tryz.func127, Tryz.ntmps127
    go_wp2_with fail
    go_ret
    exact ⟨rfl, bBel⟩
  · have e : cntok 2 n = ((n : Int) == 2) := by unfold cntok; rw [if_neg (by decide), Bool.eq_iff_iff]; simp
    rw [e]
    go_enter Tryz.func127, Tryz.ntmps127
    go_wp2_with fail
    go_ret
    exact ⟨rfl, bBel⟩
  · have e0 : (3 : Int) = 3 := rfl
    clear e0
    go_enter Tryz.func127, Tryz.ntmps127
    go_wp2_with fail
    all_goals (go_ret; refine ⟨?_, bBel⟩; first | rfl | (simp [cntok]; done) | (simp [cntok]; omega) | (simp [cntok]; rw [Bool.eq_iff_iff]; first | (simp; done) | (simp; omega)))

theorem ybet_b (x l h : Int) (w : World) : Calls Tryz.prog 148 #[.int .i64 x, .int .i64 l, .int .i64 h] w fun e w' => e = .returned (.bool (bet x l h)) ∧ Below w.heap.size w w' := by
  go_enter Tryz.func148, Tryz.ntmps148
  go_wp2_with fail
  all_goals (go_ret; refine ⟨?_, bBel⟩; first | rfl | (simp [bet]; done) | (simp [bet]; omega) | (simp [bet]; rw [Bool.eq_iff_iff]; first | (simp; done) | (simp; omega)))

theorem in20_bet (x : Int) : bet x (-1048576) 1048576 = in20 x := rfl

set_option maxRecDepth 100000 in
set_option maxHeartbeats 8000000 in
theorem yrng_b (K R : Int) (A : Option Addr) (cap : Nat) (ps : List (Int × Int)) (hl : ps.length ≤ 1000000) (w : World) (hp : Pts w A ps) : Calls Tryz.prog 128 #[.agg #[.int .i64 K, .int .i64 R, .slice A ps.length cap]] w fun e w' => e = .returned (.bool (rngS K R ps)) ∧ Below w.heap.size w w' := by
  obtain ⟨V, hV⟩ : ∃ V, rngS K R ps = V := ⟨_, rfl⟩
  rw [hV]
  have hno : Hid (¬ (∀ p ∈ ps, inrP p) → V = false) := fun h => by rw [← hV]; unfold rngS allIn; rw [decide_eq_false h]; rfl
  have hyes : Hid ((∀ p ∈ ps, inrP p) → V = !radbad K R) := fun h => by rw [← hV]; unfold rngS allIn; rw [decide_eq_true h]; rfl
  clear hV
  go_enter Tryz.func128, Tryz.ntmps128
  go_wp2_with fail
  refine wp_named ?_
  intro W hW
  have kB : blk W w.heap.size #[.int .i64 K, .int .i64 R, .slice A ps.length cap] 55 := by rw [hW]; exact bBkn
  have hbW : Below w.heap.size w W := by rw [hW]; exact bBel
  clear hW
  have hP : Pts W A ps := Pts.to hp hbW
  have hszW := hbW.size
  have okB := blk_older kB
  have ckB_0 : _ = some _ := blk_cell kB 0
  have ckB_1 : _ = some _ := blk_cell kB 1
  have ckB_2 : _ = some _ := blk_cell kB 2
  have fkB_0 := blk_free kB 0
  have fkB_1 := blk_free kB 1
  have fkB_2 := blk_free kB 2
  go_loopw [8] (fun i wr => ∃ k : Nat, k ≤ ps.length ∧ i = .int .i64 (k : Int) ∧ Hid (∀ j (h : j < ps.length), j < k → inrP ps[j]) ∧ ∃ p, wr = gw W p)
    (fun i _ => (ps.length - intOf i).toNat)
  case atStart => exact ⟨0, by omega, rfl, fun j h1 h2 => absurd h2 (by omega), ⟨⟨W.drawn, #[]⟩, (gw_zero W).symm⟩⟩
  case round =>
    obtain ⟨k, hk, rfl, hall, p, rfl⟩ := hrel
    by_cases hlt : k < ps.length
    · have j0 : (0 : Int) ≤ (k : Int) := by omega
      have j1 : (k : Int) < (ps.length : Int) := by omega
      obtain ⟨b2, off2, hA2, hc2⟩ := pts_open hP (by omega)
      subst hA2
      obtain ⟨d0, d1⟩ := hc2 p k hlt
      have ob := older_of_cell d0
      clear hc2
      have hI : Hid (inrP ps[k] ↔ in20 ps[k].1 = true ∧ in20 ps[k].2 = true) := in20_inr
      have hnx : Hid (inrP ps[k] → Hid (∀ j (h : j < ps.length), j < k + 1 → inrP ps[j])) := fun h j hj hjk => by
        rcases (by omega : j < k ∨ j = k) with h4 | rfl
        · exact hall.out j hj h4
        · exact h
      have hbad : Hid (¬ inrP ps[k] → V = false) := fun h => hno.out fun h' => h (h' _ (List.getElem_mem hlt))
      have c1 := fun w' => ybet_b ps[k].1 (-1048576) 1048576 w'
      have c2 := fun w' => ybet_b ps[k].2 (-1048576) 1048576 w'
      rw [in20_bet] at c1 c2
      clear hall hno hyes
      generalize ps[k].1 = x at *
      generalize ps[k].2 = y at *
      cases hx : in20 x
      focus
        obtain rfl : V = false := hbad.out fun h => by have := (hI.out.1 h).1; rw [hx] at this; cases this
        rw [hx] at c1
        clear hI hnx hbad hx c2
        go_wp2_with (go_at_call 148; refine Calls.mono (gw_at (c1 _)) ?_; rintro e w1 ⟨rfl, q, rfl⟩)
        go_ret
        exact ⟨rfl, bBel⟩
      cases hy : in20 y
      focus
        obtain rfl : V = false := hbad.out fun h => by have := (hI.out.1 h).2; rw [hy] at this; cases this
        rw [hx] at c1
        rw [hy] at c2
        clear hI hnx hbad hx hy
        go_wp2_with (first | (go_at_call 148; (with_reducible show Calls _ _ #[.int .i64 x, _, _] _ _); refine Calls.mono (gw_at (c1 _)) ?_; rintro e w1 ⟨rfl, q, rfl⟩) | (go_at_call 148; (with_reducible show Calls _ _ #[.int .i64 y, _, _] _ _); refine Calls.mono (gw_at (c2 _)) ?_; rintro e w1 ⟨rfl, q, rfl⟩))
        go_ret
        exact ⟨rfl, bBel⟩
      have hg := hnx.out (hI.out.2 ⟨hx, hy⟩)
      rw [hx] at c1
      rw [hy] at c2
      clear hI hnx hbad hx hy
      go_wp2_with (first | (go_at_call 148; (with_reducible show Calls _ _ #[.int .i64 x, _, _] _ _); refine Calls.mono (gw_at (c1 _)) ?_; rintro e w1 ⟨rfl, q, rfl⟩) | (go_at_call 148; (with_reducible show Calls _ _ #[.int .i64 y, _, _] _ _); refine Calls.mono (gw_at (c2 _)) ?_; rintro e w1 ⟨rfl, q, rfl⟩))
      exact ⟨⟨k + 1, by omega, by go_num, hg, gw_of_below bBel⟩, by (try go_num); simp [intOf]; (try omega)⟩
    · obtain rfl : k = ps.length := by omega
      have j1 : ¬ (ps.length : Int) < (ps.length : Int) := by omega
      have hV := hyes.out fun q hq => by obtain ⟨j, hj, rfl⟩ := List.mem_iff_getElem.1 hq; exact hall.out j hj hj
      clear hall hno hyes
      by_cases h3 : K = 3
      · have b3 : (K == 3) = true := by rw [beq_iff_eq]; exact h3
        obtain rfl : V = (R == 0) := by rw [hV, h3]; unfold radbad; rw [Bool.eq_iff_iff]; simp
        clear h3 hV
        go_wp2_with fail
        go_ret
        exact ⟨rfl, bBel⟩
      · have b3 : (K == 3) = false := by rw [beq_eq_false_iff_ne]; exact h3
        obtain rfl : V = bet R 2048 524288 := by rw [hV]; unfold radbad bet; rw [Bool.eq_iff_iff]; simp [h3]
        clear h3 hV
        go_wp2_with (go_at_call 148; refine Calls.mono (gw_at (ybet_b _ _ _ _)) ?_; rintro e w1 ⟨rfl, q, rfl⟩)
        go_ret
        exact ⟨rfl, bBel⟩

set_option maxRecDepth 100000 in
set_option maxHeartbeats 8000000 in
theorem ywell_b (K R : Int) (A : Option Addr) (cap : Nat) (ps : List (Int × Int)) (hK : known K = true) (hc : cntok K ps.length = true) (hl : ps.length ≤ 1000000) (hk : ps.length ≤ cap) (w : World) (hp : Pts w A ps) : Calls Tryz.prog 129 #[.agg #[.int .i64 K, .int .i64 R, .slice A ps.length cap]] w fun e w' => e = .returned (.bool (wellS K ps)) ∧ Below w.heap.size w w' := by
  have h3 := known_of hK
  clear hK
  rcases h3 with rfl | rfl | rfl
  · rw [show wellS 1 ps = true from by unfold wellS capbad polbad; simp]
    clear hc
    go_enter Tryz.func129, Tryz.ntmps129
    go_wp2_with fail
    go_ret
    exact ⟨rfl, bBel⟩
  · have h2 : ps.length = 2 := by unfold cntok at hc; simp at hc; omega
    rw [show wellS 2 ps = decide (4096 ≤ vlen (sub (ps[1]'(by omega)).1 (ps[0]'(by omega)).1) (sub (ps[1]'(by omega)).2 (ps[0]'(by omega)).2)) from by
      unfold wellS capbad polbad; rw [hp_get (by omega), hp_get (by omega), Bool.eq_iff_iff]; simp]
    obtain ⟨b2, off2, hA2, hc2⟩ := pts_open0 hp (by omega)
    subst hA2
    obtain ⟨d0, d1⟩ := hc2 0 (by omega)
    obtain ⟨g0, g1⟩ := hc2 1 (by omega)
    simp only [Nat.zero_mul, Nat.one_mul, Nat.add_zero] at d0 d1 g0 g1
    have ob := older_of_cell d0
    have q1 : (1 : Int) < (ps.length : Int) := by omega
    have q0 : (0 : Int) < (ps.length : Int) := by omega
    clear hc2 hc hp
    generalize hx0 : (ps[0]'(by omega)).1 = x0 at *
    generalize hy0 : (ps[0]'(by omega)).2 = y0 at *
    generalize hx1 : (ps[1]'(by omega)).1 = x1 at *
    generalize hy1 : (ps[1]'(by omega)).2 = y1 at *
    clear hx0 hy0 hx1 hy1
    clear h2
    go_enter Tryz.func129, Tryz.ntmps129
    go_wp2_with fail
    refine wp_region_gw (by kernel_rfl) (by kernel_rfl) ?_
    repeat (go_big_quiet_step ((first | (go_at_call 66; exact gw_call (vsub_b _ _ _ _ _)) | (go_at_call 149; exact gw_call (vlen_b _ _ _)))))
    refine wpQuiet_nil ?_
    intro w1 hw1
    obtain ⟨q, rfl⟩ := hw1
    go_wp2_with fail
    go_ret
    exact ⟨rfl, bBel⟩
  · have cV := fun w' h => xconv_b A cap ps (by omega) w' h hk
    have cS := fun w' h => xshort_b A cap ps (by omega) w' h hk
    have cA := fun w' h => xarea_b A cap ps (by omega) w' h hk
    have e : wellS 3 ps = (cvx ps && decide (4096 ≤ shortP ps) && decide (256 ≤ areaP ps)) := by
      unfold wellS capbad polbad; rw [Bool.eq_iff_iff]; simp [and_assoc]
    rw [e]
    clear e hc
    generalize shortP ps = S at *
    generalize areaP ps = AR at *
    cases hcv : cvx ps
    focus
      rw [hcv] at cV
      clear hcv
      go_enter Tryz.func129, Tryz.ntmps129
      go_wp2_with (go_at_call 150; refine Calls.mono (gw_at (cV _ (Pts.to hp bBel))) ?_; rintro e w1 ⟨rfl, q, rfl⟩)
      go_ret
      exact ⟨rfl, bBel⟩
    rw [hcv] at cV
    clear hcv
    by_cases s1 : 4096 ≤ S
    · rw [decide_eq_true s1]
      go_enter Tryz.func129, Tryz.ntmps129
      go_wp2_with (first | (go_at_call 150; refine Calls.mono (gw_at (cV _ (Pts.to hp bBel))) ?_; rintro e w1 ⟨rfl, q, rfl⟩) | (go_at_call 151; refine Calls.mono (gw_at (cS _ (Pts.to hp bBel))) ?_; rintro e w1 ⟨rfl, q, rfl⟩) | (go_at_call 152; refine Calls.mono (gw_at (cA _ (Pts.to hp bBel))) ?_; rintro e w1 ⟨rfl, q, rfl⟩))
      go_ret
      exact ⟨rfl, bBel⟩
    · rw [decide_eq_false s1]
      go_enter Tryz.func129, Tryz.ntmps129
      go_wp2_with (first | (go_at_call 150; refine Calls.mono (gw_at (cV _ (Pts.to hp bBel))) ?_; rintro e w1 ⟨rfl, q, rfl⟩) | (go_at_call 151; refine Calls.mono (gw_at (cS _ (Pts.to hp bBel))) ?_; rintro e w1 ⟨rfl, q, rfl⟩))
      go_ret
      exact ⟨rfl, bBel⟩

theorem yval_b (K R : Int) (A : Option Addr) (cap : Nat) (ps : List (Int × Int)) (hl : ps.length ≤ 1000000) (w : World) (hp : Pts w A ps) (hk : ps.length ≤ cap := by first | omega | decide) : Calls Tryz.prog 91 #[.agg #[.int .i64 K, .int .i64 R, .slice A ps.length cap]] w fun e w' => e = .returned (.int .i64 (valS K R ps)) ∧ Below w.heap.size w w' := by
  rw [valS_four]
  have cK := fun w' => yknow_b K w'
  cases hK : known K
  focus
    rw [hK] at cK
    rw [if_pos rfl]
    clear hK
    go_enter Tryz.func91, Tryz.ntmps91
    go_wp2_with (go_at_call 126; refine Calls.mono (gw_at (cK _)) ?_; rintro e w1 ⟨rfl, q, rfl⟩)
    go_ret
    exact ⟨rfl, bBel⟩
  rw [hK] at cK
  rw [if_neg (by decide)]
  have cC := fun w' => ycount_b K R A cap ps.length hK w'
  cases hC : cntok K ps.length
  focus
    rw [hC] at cC
    rw [if_pos rfl]
    clear hK hC
    go_enter Tryz.func91, Tryz.ntmps91
    go_wp2_with (first | (go_at_call 126; refine Calls.mono (gw_at (cK _)) ?_; rintro e w1 ⟨rfl, q, rfl⟩) | (go_at_call 127; refine Calls.mono (gw_at (cC _)) ?_; rintro e w1 ⟨rfl, q, rfl⟩))
    go_ret
    exact ⟨rfl, bBel⟩
  rw [hC] at cC
  rw [if_neg (by decide)]
  have cR := fun w' h => yrng_b K R A cap ps hl w' h
  cases hR : rngS K R ps
  focus
    rw [hR] at cR
    rw [if_pos rfl]
    clear hK hC hR
    go_enter Tryz.func91, Tryz.ntmps91
    go_wp2_with (first | (go_at_call 126; refine Calls.mono (gw_at (cK _)) ?_; rintro e w1 ⟨rfl, q, rfl⟩) | (go_at_call 127; refine Calls.mono (gw_at (cC _)) ?_; rintro e w1 ⟨rfl, q, rfl⟩) | (go_at_call 128; refine Calls.mono (gw_at (cR _ (Pts.to hp bBel))) ?_; rintro e w1 ⟨rfl, q, rfl⟩))
    go_ret
    exact ⟨rfl, bBel⟩
  rw [hR] at cR
  rw [if_neg (by decide)]
  have cW := fun w' h => ywell_b K R A cap ps hK hC hl hk w' h
  cases hW : wellS K ps
  focus
    rw [hW] at cW
    rw [if_pos rfl]
    clear hK hC hR hW
    go_enter Tryz.func91, Tryz.ntmps91
    go_wp2_with (first | (go_at_call 126; refine Calls.mono (gw_at (cK _)) ?_; rintro e w1 ⟨rfl, q, rfl⟩) | (go_at_call 127; refine Calls.mono (gw_at (cC _)) ?_; rintro e w1 ⟨rfl, q, rfl⟩) | (go_at_call 128; refine Calls.mono (gw_at (cR _ (Pts.to hp bBel))) ?_; rintro e w1 ⟨rfl, q, rfl⟩) | (go_at_call 129; refine Calls.mono (gw_at (cW _ (Pts.to hp bBel))) ?_; rintro e w1 ⟨rfl, q, rfl⟩))
    go_ret
    exact ⟨rfl, bBel⟩
  rw [hW] at cW
  rw [if_neg (by decide)]
  clear hK hC hR hW
  go_enter Tryz.func91, Tryz.ntmps91
  go_wp2_with (first | (go_at_call 126; refine Calls.mono (gw_at (cK _)) ?_; rintro e w1 ⟨rfl, q, rfl⟩) | (go_at_call 127; refine Calls.mono (gw_at (cC _)) ?_; rintro e w1 ⟨rfl, q, rfl⟩) | (go_at_call 128; refine Calls.mono (gw_at (cR _ (Pts.to hp bBel))) ?_; rintro e w1 ⟨rfl, q, rfl⟩) | (go_at_call 129; refine Calls.mono (gw_at (cW _ (Pts.to hp bBel))) ?_; rintro e w1 ⟨rfl, q, rfl⟩))
  go_ret
  exact ⟨rfl, bBel⟩

end Go.Proofs.YtaahgblkmajceaaGreat

set_option linter.unusedVariables false
namespace Go.Proofs.YtaahgblkmajceaaGreat
open Go.RowKit Fx

/-- The core as it is filled in. -/
def vfill (L : List (Int × Int)) (k : Nat) : List (Int × Int) := L.take k ++ List.replicate (L.length - k) (0, 0)
theorem vfill_length {L : List (Int × Int)} {k : Nat} (h : k ≤ L.length) : (vfill L k).length = L.length := by unfold vfill; simp; omega
theorem vfill_zero (L : List (Int × Int)) : vfill L 0 = List.replicate L.length (0, 0) := by unfold vfill; simp
theorem vfill_end (L : List (Int × Int)) : vfill L L.length = L := by unfold vfill; simp
theorem vfill_succ {L : List (Int × Int)} {k : Nat} (h : k < L.length) : vfill L (k + 1) = (vfill L k).set k L[k] := by
  unfold vfill
  rw [List.set_append_right _ _ (by simp; omega)]
  have e : L.length - k = (L.length - (k + 1)) + 1 := by omega
  rw [e, List.replicate_succ]
  have e2 : k - (L.take k).length = 0 := by simp; omega
  have e3 : L.take (k + 1) = L.take k ++ [L[k]] := by rw [List.take_add_one, List.getElem?_eq_getElem h]; rfl
  rw [e2, List.set_cons_zero, e3, List.append_assoc]; rfl

/-- An own row of points: where it lies. -/
theorem own_fresh {w : World} {B : Nat} {e : TypeId} {v : Value} {ps : List (Int × Int)} (h : w.ownsRow B e 2 v ps.length (pv ps)) : ∃ A cap, v = .slice A ps.length cap ∧ ps.length ≤ cap ∧ cap ≤ maxLen ∧ (A = none → cap = 0) ∧ Pts w A ps ∧ (ps = [] ∨ ∃ b off, A = some ⟨b, off, none⟩ ∧ B ≤ b) := by
  have h2 := h
  obtain ⟨A, cap, e1, e2, h3, h4, h5⟩ := owns_pts h
  obtain ⟨_, ⟨hv, hn⟩ | ⟨g, cap', cur, hv, hb, _⟩⟩ := h2
  · rw [hv] at e1
    obtain ⟨rfl, hl0, rfl⟩ : none = A ∧ 0 = ps.length ∧ 0 = cap := by simpa using e1
    exact ⟨none, 0, by rw [hv, hl0], h3, h4, fun _ => rfl, h5, .inl (List.eq_nil_of_length_eq_zero hl0.symm)⟩
  · rw [hv] at e1
    obtain ⟨rfl, rfl⟩ : some ⟨g, 0, none⟩ = A ∧ cap' = cap := by simpa using e1
    exact ⟨_, _, hv, h3, h4, (fun h => by cases h), h5, .inr ⟨g, 0, rfl, hb⟩⟩

set_option maxRecDepth 100000 in
set_option maxHeartbeats 8000000 in
theorem yvert_b (K R : Int) (A : Option Addr) (cap : Nat) (ps : List (Int × Int)) (px py a : Int) (hl : ps.length ≤ 1000000) (w : World) (hp : Pts w A ps) (hk : ps.length ≤ cap := by first | omega | decide) : Calls Tryz.prog 69 #[.agg #[.int .i64 K, .int .i64 R, .slice A ps.length cap], .agg #[.int .i64 px, .int .i64 py, .int .i64 a]] w (HullR w (core K R ps px py a)) := by
  obtain ⟨i0, hi, hz0, hz1, hz2⟩ := info_parts info_vec
  have cV := fun w' h => yval_b K R A cap ps hl w' h hk
  by_cases hv : valS K R ps = 0
  rotate_left
  · rw [core_no _ _ _ hv]
    have b1 : (valS K R ps != 0) = true := by rw [bne_iff_ne]; exact hv
    generalize valS K R ps = V at *
    clear hv
    go_enter Tryz.func69, Tryz.ntmps69
    go_wp2_with (go_at_call 91; refine Calls.mono (gw_at (cV _ (Pts.to hp bBel))) ?_; rintro e w1 ⟨rfl, q, rfl⟩)
    go_ret
    exact ⟨⟨none, 0, rfl, Nat.le_refl _, by decide, .inl rfl⟩, bBel⟩
  have hlen := (val_len hv).2.1
  rw [core_ok _ _ _ hv]
  rw [hv] at cV
  obtain ⟨L, hL⟩ : ∃ L, ps.map (tr px py a) = L := ⟨_, rfl⟩
  rw [hL]
  have hLl : Hid (L.length = ps.length) := by show _ = _; rw [← hL, List.length_map]
  have hLs : Hid (∀ k (h : k < ps.length), vfill L (k + 1) = (vfill L k).set k (tpx px a ps[k].1 ps[k].2, tpy py a ps[k].1 ps[k].2)) := fun k h => by
    subst hL
    rw [vfill_succ (by rw [List.length_map]; exact h), List.getElem_map]; rfl
  clear hL hv
  go_enter Tryz.func69, Tryz.ntmps69
  go_upto_region 4 with (first | (refine wpList_mk rfl _ _ 53 rfl 32 i0 (.agg #[.int .i64 0, .int .i64 0]) #[.int .i64 0, .int .i64 0] rfl 2 16 Tryz.underlying53 hi hz0 hz1 hz2 _ _ _ _ ps.length ps.length rfl rfl rfl rfl (Nat.le_refl _) (by omega) (by unfold maxLen; omega) ?_) | (go_at_call 91; refine Calls.mono (gw_at (cV _ (Pts.to hp bBel))) ?_; rintro e w1 ⟨rfl, q, rfl⟩))
  refine wp_named ?_
  intro W hW
  have kB : blk W w.heap.size #[.int .i64 K, .int .i64 R, .slice A ps.length cap] 55 := by rw [hW]; exact bBkn
  have kT : blk W (w.heap.size + 1) #[.int .i64 px, .int .i64 py, .int .i64 a] 34 := by rw [hW]; exact bBkn
  have kL : blk W (w.heap.size + 1 + 1 + q.os.size) (pv (vfill L 0)).toArray 32 := by rw [hW]; refine blk_of (c' := _) bBkn ?_; rw [vfill_zero, hLl.out]; exact made_pts _
  have hbW : Below w.heap.size w W := by rw [hW]; exact bBel
  clear hW cV
  have hBw : w.heap.size + 1 < w.heap.size + 1 + 1 + q.os.size := by omega
  generalize w.heap.size + 1 + 1 + q.os.size = B at *
  have okB := blk_older kB
  have ckB_0 : _ = some _ := blk_cell kB 0
  have ckB_1 : _ = some _ := blk_cell kB 1
  have ckB_2 : _ = some _ := blk_cell kB 2
  have fkB_0 := blk_free kB 0
  have fkB_1 := blk_free kB 1
  have fkB_2 := blk_free kB 2
  go_wp2_with fail
  go_loopw [18] (fun i wr => ∃ k : Nat, k ≤ ps.length ∧ i = .int .i64 (k : Int) ∧ blk wr B (pv (vfill L k)).toArray 32 ∧ blk wr (w.heap.size + 1) #[.int .i64 px, .int .i64 py, .int .i64 a] 34 ∧ Below w.heap.size w wr)
    (fun i _ => (ps.length - intOf i).toNat)
  case atStart => exact ⟨0, by omega, rfl, by first | exact kL | exact blk_gw kL, by first | exact kT | exact blk_gw kT, by first | exact hbW | exact bBel⟩
  case round =>
    obtain ⟨k, hkk, rfl, kL2, kT2, hbR⟩ := hrel
    have hszR := hbR.size
    have okT2 := blk_older kT2
    have ckT2_0 : _ = some _ := blk_cell kT2 0
    have ckT2_1 : _ = some _ := blk_cell kT2 1
    have ckT2_2 : _ = some _ := blk_cell kT2 2
    have fkT2_0 := blk_free kT2 0
    have fkT2_1 := blk_free kT2 1
    have fkT2_2 := blk_free kT2 2
    by_cases hlt : k < ps.length
    · have j0 : (0 : Int) ≤ (k : Int) := by omega
      have j1 : (k : Int) < (ps.length : Int) := by omega
      obtain ⟨b2, off2, hA2, hc2⟩ := pts_open0 (Pts.to hp hbR) (by omega)
      subst hA2
      obtain ⟨d0, d1⟩ := hc2 k hlt
      have ob := older_of_cell d0
      have hLk : k < (vfill L k).length := by rw [vfill_length (by rw [hLl.out]; omega), hLl.out]; exact hlt
      obtain ⟨c0, c1⟩ := pv_arr (vfill L k) k hLk
      rw [← blk_cell kL2] at c0 c1
      have f0 := blk_free kL2 (k * 2)
      have f1 := blk_free kL2 (k * 2 + 1)
      have oB := blk_older kL2
      have hs : Hid _ := hLs.out k hlt
      clear hc2
      generalize ps[k].1 = x at *
      generalize ps[k].2 = y at *
      go_wp2_with (go_at_call 92; refine Calls.mono (gw_at (tapp_b _ _ _ _ _ _)) ?_; rintro e w1 ⟨rfl, q2, rfl⟩)
      refine ⟨⟨k + 1, by omega, by go_num, ?_, ?_, bBel⟩, by (try go_num); simp [intOf]; (try omega)⟩
      · rw [hs.out, ← pv_arr_set]; exact (by apply blk_of; (repeat (first | with_reducible exact kL2 | with_reducible apply blk_drew | with_reducible apply blk_gw | with_reducible apply blk_alloc | with_reducible apply blk_set | ((with_reducible apply blk_other); focus omega))); (first | rfl | simp))
      · exact (by apply blk_of; (repeat (first | with_reducible exact kT2 | with_reducible apply blk_drew | with_reducible apply blk_gw | with_reducible apply blk_alloc | with_reducible apply blk_set | ((with_reducible apply blk_other); focus omega))); (first | rfl | simp))
    · obtain rfl : k = ps.length := by omega
      have j1 : ¬ (ps.length : Int) < (ps.length : Int) := by omega
      rw [← hLl.out, vfill_end] at kL2
      go_wp2_with fail
      go_ret
      refine ⟨⟨some ⟨B, 0, none⟩, ps.length, by rw [hLl.out]; rfl, by rw [hLl.out]; exact Nat.le_refl _, by unfold maxLen; omega, (pts_of_list kL2).to bBel⟩, bBel⟩

end Go.Proofs.YtaahgblkmajceaaGreat

set_option linter.unusedVariables false
namespace Go.Proofs.YtaahgblkmajceaaGreat
open Go.RowKit Fx

set_option maxHeartbeats 4000000 in
theorem ybnd_b (K R : Int) (A : Option Addr) (cap : Nat) (ps : List (Int × Int)) (px py a : Int) (hl : ps.length ≤ 1000000) (w : World) (hp : Pts w A ps) (hk : ps.length ≤ cap := by first | omega | decide) : Calls Tryz.prog 50 #[.agg #[.int .i64 K, .int .i64 R, .slice A ps.length cap], .agg #[.int .i64 px, .int .i64 py, .int .i64 a]] w fun e w' => e = .returned (.agg #[.int .i64 (bndS K R ps px py a).x0, .int .i64 (bndS K R ps px py a).y0, .int .i64 (bndS K R ps px py a).x1, .int .i64 (bndS K R ps px py a).y1]) ∧ Below w.heap.size w w' := by
  have cV := fun w' h => yvert_b K R A cap ps px py a hl w' h hk
  by_cases hv : valS K R ps = 0
  rotate_left
  · have e : bndS K R ps px py a = Bx.zero := if_neg hv
    rw [e]
    rw [core_no _ _ _ hv] at cV
    clear hv e
    go_enter Tryz.func50, Tryz.ntmps50
    go_wp2_with (first | (go_at_call 69; refine Calls.mono (cV _ (Pts.to hp bBel)) ?_; rintro e w1 ⟨⟨A1, cap1, rfl, h11, h12, h13⟩, hb1⟩; obtain ⟨q1, rfl⟩ := gw_of_below hb1; clear hb1) | (go_at_call 68; refine Calls.mono (gw_at (xfp0_b _ _ _)) ?_; rintro e w1 ⟨rfl, q, rfl⟩))
    refine post_named ?_
    intro Z hZ
    have kZ : blk Z (w.heap.size + 1 + 1) #[.int .i64 0, .int .i64 0, .int .i64 0, .int .i64 0] 42 := by rw [hZ]; first | exact bBkn | exact (by apply blk_of; (repeat (first  | with_reducible apply blk_drew | with_reducible apply blk_gw | with_reducible apply blk_alloc | with_reducible apply blk_set | ((with_reducible apply blk_other); focus omega))); (first | rfl | simp))
    have hbZ : Below w.heap.size w Z := by rw [hZ]; exact bBel
    clear hZ
    have okZ := blk_older kZ
    have ckZ_0 : _ = some _ := blk_cell kZ 0
    have ckZ_1 : _ = some _ := blk_cell kZ 1
    have ckZ_2 : _ = some _ := blk_cell kZ 2
    have ckZ_3 : _ = some _ := blk_cell kZ 3
    have fkZ_0 := blk_free kZ 0
    have fkZ_1 := blk_free kZ 1
    have fkZ_2 := blk_free kZ 2
    have fkZ_3 := blk_free kZ 3
    exact bodyPost_ret (v := .agg #[.int .i64 0, .int .i64 0, .int .i64 0, .int .i64 0]) (by simp [results, Tryz.results50, go_sem, ckZ_0, ckZ_1, ckZ_2, ckZ_3]) rfl ⟨rfl, hbZ⟩
  have e : bndS K R ps px py a = (Bx.pts (ps.map (tr px py a))).mar R := if_pos hv
  have hlen := val_len hv
  have hrad := val_rad hv
  rw [e]
  rw [core_ok _ _ _ hv] at cV
  have h0 : 0 < (ps.map (tr px py a)).length := by rw [List.length_map]; omega
  have h8 : (ps.map (tr px py a)).length ≤ 8 := by rw [List.length_map]; omega
  generalize ps.map (tr px py a) = L at *
  have hE : Bx.exp (Bx.pts L) R = (Bx.pts L).mar R := Bx.exp_pos (Bx.val_iff.2 (Bx.pts_ok h0)) hrad.1
  have cE := fun w' => xexp_b (Bx.pts L).x0 (Bx.pts L).y0 (Bx.pts L).x1 (Bx.pts L).y1 R w'
  rw [show Bx.exp ⟨(Bx.pts L).x0, (Bx.pts L).y0, (Bx.pts L).x1, (Bx.pts L).y1⟩ R = (Bx.pts L).mar R from hE] at cE
  have cF := fun (A1 : Option Addr) (c1 : Nat) w' (h : Pts w' A1 L) (h1 : L.length ≤ c1) => xfp_b A1 c1 L w' h (by omega) h1
  rw [decide_eq_true h0] at cF
  clear hv e hlen hrad hE
  generalize (Bx.pts L).mar R = M at *
  generalize (Bx.pts L).x0 = x0 at *
  generalize (Bx.pts L).y0 = y0 at *
  generalize (Bx.pts L).x1 = x1 at *
  generalize (Bx.pts L).y1 = y1 at *
  obtain ⟨u0, v0, u1, v1⟩ := M
  dsimp only at cE ⊢
  go_enter Tryz.func50, Tryz.ntmps50
  go_wp2_with (first | (go_at_call 69; refine Calls.mono (cV _ (Pts.to hp bBel)) ?_; rintro e w1 ⟨⟨A1, cap1, rfl, h11, h12, h13⟩, hb1⟩; obtain ⟨q1, rfl⟩ := gw_of_below hb1; clear hb1) | (go_at_call 68; refine Calls.mono (gw_at (cF _ _ _ (Pts.to h13 bBel) h11)) ?_; rintro e w1 ⟨rfl, q, rfl⟩) | (go_at_call 49; refine Calls.mono (gw_at (cE _)) ?_; rintro e w1 ⟨rfl, q3, rfl⟩))
  refine post_named ?_
  intro Z hZ
  have kZ : blk Z (w.heap.size + 1 + 1) #[.int .i64 u0, .int .i64 v0, .int .i64 u1, .int .i64 v1] 42 := by rw [hZ]; first | exact bBkn | exact (by apply blk_of; (repeat (first  | with_reducible apply blk_drew | with_reducible apply blk_gw | with_reducible apply blk_alloc | with_reducible apply blk_set | ((with_reducible apply blk_other); focus omega))); (first | rfl | simp))
  have hbZ : Below w.heap.size w Z := by rw [hZ]; exact bBel
  clear hZ
  have okZ := blk_older kZ
  have ckZ_0 : _ = some _ := blk_cell kZ 0
  have ckZ_1 : _ = some _ := blk_cell kZ 1
  have ckZ_2 : _ = some _ := blk_cell kZ 2
  have ckZ_3 : _ = some _ := blk_cell kZ 3
  have fkZ_0 := blk_free kZ 0
  have fkZ_1 := blk_free kZ 1
  have fkZ_2 := blk_free kZ 2
  have fkZ_3 := blk_free kZ 3
  exact bodyPost_ret (v := .agg #[.int .i64 u0, .int .i64 v0, .int .i64 u1, .int .i64 v1]) (by simp [results, Tryz.results50, go_sem, ckZ_0, ckZ_1, ckZ_2, ckZ_3]) rfl ⟨rfl, hbZ⟩

end Go.Proofs.YtaahgblkmajceaaGreat
