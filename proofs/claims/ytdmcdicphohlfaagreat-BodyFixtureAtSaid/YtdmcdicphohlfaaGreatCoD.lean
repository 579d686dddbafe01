/- Contracts of package shape, the landed code: the tests, Validate, Equal, Clone.
Contracts of package shape, the landed code: Vertices, Bounds, ContainsPoint, Support, BoundingRadius.
Contracts of package shape, the landed code: Vertices, BoundingRadius, Equal, Clone.
Contracts of package shape, the landed code: Bounds, Support, ContainsPoint. -/
import Derived.Test.YtdmcdicphohlfaaGreatCo9
import Derived.Test.YtdmcdicphohlfaaGreatCoB
import Derived.Test.YtdmcdicphohlfaaGreatCo4
import Derived.Test.YtdmcdicphohlfaaGreatCo6

set_option linter.unusedVariables false
namespace Go.Proofs.YtdmcdicphohlfaaGreat
open Go.RowKit Fx

def known (K : Int) : Bool := decide (K = 1) || decide (K = 2) || decide (K = 3)
theorem known_of {K : Int} (h : known K = true) : K = 1 ∨ K = 2 ∨ K = 3 := by unfold known at h; simp at h; omega
theorem known_not {K : Int} (h : known K = false) : K < 1 ∨ 3 < K := by unfold known at h; simp at h; omega
def bet (x l h : Int) : Bool := decide (l ≤ x) && decide (x ≤ h)
def rngS (K R : Int) (ps : List (Int × Int)) : Bool := allIn ps && !radbad K R
def wellS (K : Int) (ps : List (Int × Int)) : Bool := !capbad K ps && !polbad K ps
theorem valS_four (K R : Int) (ps : List (Int × Int)) : valS K R ps = if known K = false then 10 else if cntok K ps.length = false then 11 else if rngS K R ps = false then 6 else if wellS K ps = false then 12 else 0 := by
  unfold valS
  by_cases h1 : K < 1 ∨ 3 < K
  · rw [if_pos h1, if_pos (c := known K = false) (by unfold known; simp; omega)]
  · rw [if_neg h1, if_neg (c := known K = false) (by unfold known; simp; omega)]
    by_cases h2 : cntok K ps.length = false
    · rw [if_pos h2, if_pos h2]
    · rw [if_neg h2, if_neg h2]
      unfold rngS wellS allIn
      by_cases h3 : ∀ p ∈ ps, inrP p
      · rw [if_neg (fun h => h h3), decide_eq_true h3]
        cases radbad K R <;> cases capbad K ps <;> cases polbad K ps <;> rfl
      · rw [if_pos h3, decide_eq_false h3]; rfl

theorem yknow_b (K : Int) (w : World) : Calls Tryz.prog 124 #[.int .i64 K] w fun e w' => e = .returned (.bool (known K)) ∧ Below w.heap.size w w' := by
  go_enter Tryz.func124, Tryz.ntmps124
  go_wp2_with fail
  all_goals (go_ret; refine ⟨?_, bBel⟩; first | rfl | (simp [known]; done) | (simp [known]; omega) | (simp [known]; rw [Bool.eq_iff_iff]; first | (simp; done) | (simp; omega)))

theorem ycount_b (K R : Int) (A : Option Addr) (cap n : Nat) (hK : known K = true) (w : World) : Calls Tryz.prog 125 #[.agg #[.int .i64 K, .int .i64 R, .slice A n cap]] w fun e w' => e = .returned (.bool (cntok K n)) ∧ Below w.heap.size w w' := by
  have h3 := known_of hK
  clear hK
  rcases h3 with rfl | rfl | rfl
  · have e : cntok 1 n = ((n : Int) == 1) := by unfold cntok; rw [if_neg (by decide), Bool.eq_iff_iff]; simp
    rw [e]
    go_enter Tryz.func125, Tryz.ntmps125
    go_wp2_with fail
    go_ret
    exact ⟨rfl, bBel⟩
  · have e : cntok 2 n = ((n : Int) == 2) := by unfold cntok; rw [if_neg (by decide), Bool.eq_iff_iff]; simp
    rw [e]
    go_enter Tryz.func125, Tryz.ntmps125
    go_wp2_with fail
    go_ret
    exact ⟨rfl, bBel⟩
  · have e0 : (3 : Int) = 3 := rfl
    clear e0
    go_enter Tryz.func125, Tryz.ntmps125
    go_wp2_with fail
    all_goals (go_ret; refine ⟨?_, bBel⟩; first | rfl | (simp [cntok]; done) | (simp [cntok]; omega) | (simp [cntok]; rw [Bool.eq_iff_iff]; first | (simp; done) | (simp; omega)))

theorem ybet_b (x l h : Int) (w : World) : Calls Tryz.prog 181 #[.int .i64 x, .int .i64 l, .int .i64 h] w fun e w' => e = .returned (.bool (bet x l h)) ∧ Below w.heap.size w w' := by
  go_enter Tryz.func181, Tryz.ntmps181
  go_wp2_with fail
  all_goals (go_ret; refine ⟨?_, bBel⟩; first | rfl | (simp [bet]; done) | (simp [bet]; omega) | (simp [bet]; rw [Bool.eq_iff_iff]; first | (simp; done) | (simp; omega)))

theorem in20_bet (x : Int) : bet x (-1048576) 1048576 = in20 x := rfl

set_option maxRecDepth 100000 in
set_option maxHeartbeats 8000000 in
theorem yrng_b (K R : Int) (A : Option Addr) (cap : Nat) (ps : List (Int × Int)) (hl : ps.length ≤ 1000000) (w : World) (hp : Pts w A ps) : Calls Tryz.prog 126 #[.agg #[.int .i64 K, .int .i64 R, .slice A ps.length cap]] w fun e w' => e = .returned (.bool (rngS K R ps)) ∧ Below w.heap.size w w' := by
  obtain ⟨V, hV⟩ : ∃ V, rngS K R ps = V := ⟨_, rfl⟩
  rw [hV]
  have hno : Hid (¬ (∀ p ∈ ps, inrP p) → V = false) := fun h => by rw [← hV]; unfold rngS allIn; rw [decide_eq_false h]; rfl
  have hyes : Hid ((∀ p ∈ ps, inrP p) → V = !radbad K R) := fun h => by rw [← hV]; unfold rngS allIn; rw [decide_eq_true h]; rfl
  clear hV
  go_enter Tryz.func126, Tryz.ntmps126
  go_wp2_with fail
  refine wp_named ?_
  intro W hW
  have kB : blk W w.heap.size #[.int .i64 K, .int .i64 R, .slice A ps.length cap] 33 := by rw [hW]; exact bBkn
  have hbW : Below w.heap.size w W := by rw [hW]; exact bBel
  clear hW
  have hP : Pts W A ps := Pts.to hp hbW
  have hszW := hbW.size
  have okB := blk_older kB
  have ckB_0 : _ = some _ := blk_cell kB 0
  have ckB_1 : _ = some _ := blk_cell kB 1
  have ckB_2 : _ = some _ := blk_cell kB 2
  have fkB_0 := blk_free kB 0
  have fkB_1 := blk_free kB 1
  have fkB_2 := blk_free kB 2
  go_loopw [8] (fun i wr => ∃ k : Nat, k ≤ ps.length ∧ i = .int .i64 (k : Int) ∧ Hid (∀ j (h : j < ps.length), j < k → inrP ps[j]) ∧ ∃ p, wr = gw W p)
    (fun i _ => (ps.length - intOf i).toNat)
  case atStart => exact ⟨0, by omega, rfl, fun j h1 h2 => absurd h2 (by omega), ⟨⟨W.drawn, #[]⟩, (gw_zero W).symm⟩⟩
  case round =>
    obtain ⟨k, hk, rfl, hall, p, rfl⟩ := hrel
    by_cases hlt : k < ps.length
    · have j0 : (0 : Int) ≤ (k : Int) := by omega
      have j1 : (k : Int) < (ps.length : Int) := by omega
      obtain ⟨b2, off2, hA2, hc2⟩ := pts_open hP (by omega)
      subst hA2
      obtain ⟨d0, d1⟩ := hc2 p k hlt
      have ob := older_of_cell d0
      clear hc2
      have hI : Hid (inrP ps[k] ↔ in20 ps[k].1 = true ∧ in20 ps[k].2 = true) := in20_inr
      have hnx : Hid (inrP ps[k] → Hid (∀ j (h : j < ps.length), j < k + 1 → inrP ps[j])) := fun h j hj hjk => by
        rcases (by omega : j < k ∨ j = k) with h4 | rfl
        · exact hall.out j hj h4
        · exact h
      have hbad : Hid (¬ inrP ps[k] → V = false) := fun h => hno.out fun h' => h (h' _ (List.getElem_mem hlt))
      have c1 := fun w' => ybet_b ps[k].1 (-1048576) 1048576 w'
      have c2 := fun w' => ybet_b ps[k].2 (-1048576) 1048576 w'
      rw [in20_bet] at c1 c2
      clear hall hno hyes
      generalize ps[k].1 = x at *
      generalize ps[k].2 = y at *
      cases hx : in20 x
      focus
        obtain rfl : V = false := hbad.out fun h => by have := (hI.out.1 h).1; rw [hx] at this; cases this
        rw [hx] at c1
        clear hI hnx hbad hx c2
        go_wp2_with (go_at_call 181; refine Calls.mono (gw_at (c1 _)) ?_; rintro e w1 ⟨rfl, q, rfl⟩)
        go_ret
        exact ⟨rfl, bBel⟩
      cases hy : in20 y
      focus
        obtain rfl : V = false := hbad.out fun h => by have := (hI.out.1 h).2; rw [hy] at this; cases this
        rw [hx] at c1
        rw [hy] at c2
        clear hI hnx hbad hx hy
        go_wp2_with (first | (go_at_call 181; (with_reducible show Calls _ _ #[.int .i64 x, _, _] _ _); refine Calls.mono (gw_at (c1 _)) ?_; rintro e w1 ⟨rfl, q, rfl⟩) | (go_at_call 181; (with_reducible show Calls _ _ #[.int .i64 y, _, _] _ _); refine Calls.mono (gw_at (c2 _)) ?_; rintro e w1 ⟨rfl, q, rfl⟩))
        go_ret
        exact ⟨rfl, bBel⟩
      have hg := hnx.out (hI.out.2 ⟨hx, hy⟩)
      rw [hx] at c1
      rw [hy] at c2
      clear hI hnx hbad hx hy
      go_wp2_with (first | (go_at_call 181; (with_reducible show Calls _ _ #[.int .i64 x, _, _] _ _); refine Calls.mono (gw_at (c1 _)) ?_; rintro e w1 ⟨rfl, q, rfl⟩) | (go_at_call 181; (with_reducible show Calls _ _ #[.int .i64 y, _, _] _ _); refine Calls.mono (gw_at (c2 _)) ?_; rintro e w1 ⟨rfl, q, rfl⟩))
      exact ⟨⟨k + 1, by omega, by go_num, hg, gw_of_below bBel⟩, by (try go_num); simp [intOf]; (try omega)⟩
    · obtain rfl : k = ps.length := by omega
      have j1 : ¬ (ps.length : Int) < (ps.length : Int) := by omega
      have hV := hyes.out fun q hq => by obtain ⟨j, hj, rfl⟩ := List.mem_iff_getElem.1 hq; exact hall.out j hj hj
      clear hall hno hyes
      by_cases h3 : K = 3
      · have b3 : (K == 3) = true := by rw [beq_iff_eq]; exact h3
        obtain rfl : V = (R == 0) := by rw [hV, h3]; unfold radbad; rw [Bool.eq_iff_iff]; simp
        clear h3 hV
        go_wp2_with fail
        go_ret
        exact ⟨rfl, bBel⟩
      · have b3 : (K == 3) = false := by rw [beq_eq_false_iff_ne]; exact h3
        obtain rfl : V = bet R 2048 524288 := by rw [hV]; unfold radbad bet; rw [Bool.eq_iff_iff]; simp [h3]
        clear h3 hV
        go_wp2_with (go_at_call 181; refine Calls.mono (gw_at (ybet_b _ _ _ _)) ?_; rintro e w1 ⟨rfl, q, rfl⟩)
        go_ret
        exact ⟨rfl, bBel⟩

set_option maxRecDepth 100000 in
set_option maxHeartbeats 8000000 in
theorem ywell_b (K R : Int) (A : Option Addr) (cap : Nat) (ps : List (Int × Int)) (hK : known K = true) (hc : cntok K ps.length = true) (hl : ps.length ≤ 1000000) (hk : ps.length ≤ cap) (w : World) (hp : Pts w A ps) : Calls Tryz.prog 127 #[.agg #[.int .i64 K, .int .i64 R, .slice A ps.length cap]] w fun e w' => e = .returned (.bool (wellS K ps)) ∧ Below w.heap.size w w' := by
  have h3 := known_of hK
  clear hK
  rcases h3 with rfl | rfl | rfl
  · rw [show wellS 1 ps = true from by unfold wellS capbad polbad; simp]
    clear hc
    go_enter Tryz.func127, Tryz.ntmps127
    go_wp2_with fail
    go_ret
    exact ⟨rfl, bBel⟩
  · have h2 : ps.length = 2 := by unfold cntok at hc; simp at hc; omega
    rw [show wellS 2 ps = decide (4096 ≤ vlen (sub (ps[1]'(by omega)).1 (ps[0]'(by omega)).1) (sub (ps[1]'(by omega)).2 (ps[0]'(by omega)).2)) from by
      unfold wellS capbad polbad; rw [hp_get (by omega), hp_get (by omega), Bool.eq_iff_iff]; simp]
    obtain ⟨b2, off2, hA2, hc2⟩ := pts_open0 hp (by omega)
    subst hA2
    obtain ⟨d0, d1⟩ := hc2 0 (by omega)
    obtain ⟨g0, g1⟩ := hc2 1 (by omega)
    simp only [Nat.zero_mul, Nat.one_mul, Nat.add_zero] at d0 d1 g0 g1
    have ob := older_of_cell d0
    have q1 : (1 : Int) < (ps.length : Int) := by omega
    have q0 : (0 : Int) < (ps.length : Int) := by omega
    clear hc2 hc hp
    generalize hx0 : (ps[0]'(by omega)).1 = x0 at *
    generalize hy0 : (ps[0]'(by omega)).2 = y0 at *
    generalize hx1 : (ps[1]'(by omega)).1 = x1 at *
    generalize hy1 : (ps[1]'(by omega)).2 = y1 at *
    clear hx0 hy0 hx1 hy1
    clear h2
    go_enter Tryz.func127, Tryz.ntmps127
    go_wp2_with fail
    refine wp_region_gw (by kernel_rfl) (by kernel_rfl) ?_
    repeat (go_big_quiet_step ((first | (go_at_call 97; exact gw_call (vsub_b _ _ _ _ _)) | (go_at_call 96; exact gw_call (vlen_b _ _ _)))))
    refine wpQuiet_nil ?_
    intro w1 hw1
    obtain ⟨q, rfl⟩ := hw1
    go_wp2_with fail
    go_ret
    exact ⟨rfl, bBel⟩
  · have cV := fun w' h => xconv_b A cap ps (by omega) w' h hk
    have cS := fun w' h => xshort_b A cap ps (by omega) w' h hk
    have cA := fun w' h => xarea_b A cap ps (by omega) w' h hk
    have e : wellS 3 ps = (cvx ps && decide (4096 ≤ shortP ps) && decide (256 ≤ areaP ps)) := by
      unfold wellS capbad polbad; rw [Bool.eq_iff_iff]; simp [and_assoc]
    rw [e]
    clear e hc
    generalize shortP ps = S at *
    generalize areaP ps = AR at *
    cases hcv : cvx ps
    focus
      rw [hcv] at cV
      clear hcv
      go_enter Tryz.func127, Tryz.ntmps127
      go_wp2_with (go_at_call 182; refine Calls.mono (gw_at (cV _ (Pts.to hp bBel))) ?_; rintro e w1 ⟨rfl, q, rfl⟩)
      go_ret
      exact ⟨rfl, bBel⟩
    rw [hcv] at cV
    clear hcv
    by_cases s1 : 4096 ≤ S
    · rw [decide_eq_true s1]
      go_enter Tryz.func127, Tryz.ntmps127
      go_wp2_with (first | (go_at_call 182; refine Calls.mono (gw_at (cV _ (Pts.to hp bBel))) ?_; rintro e w1 ⟨rfl, q, rfl⟩) | (go_at_call 183; refine Calls.mono (gw_at (cS _ (Pts.to hp bBel))) ?_; rintro e w1 ⟨rfl, q, rfl⟩) | (go_at_call 184; refine Calls.mono (gw_at (cA _ (Pts.to hp bBel))) ?_; rintro e w1 ⟨rfl, q, rfl⟩))
      go_ret
      exact ⟨rfl, bBel⟩
    · rw [decide_eq_false s1]
      go_enter Tryz.func127, Tryz.ntmps127
      go_wp2_with (first | (go_at_call 182; refine Calls.mono (gw_at (cV _ (Pts.to hp bBel))) ?_; rintro e w1 ⟨rfl, q, rfl⟩) | (go_at_call 183; refine Calls.mono (gw_at (cS _ (Pts.to hp bBel))) ?_; rintro e w1 ⟨rfl, q, rfl⟩))
      go_ret
      exact ⟨rfl, bBel⟩

theorem yval_b (K R : Int) (A : Option Addr) (cap : Nat) (ps : List (Int × Int)) (hl : ps.length ≤ 1000000) (w : World) (hp : Pts w A ps) (hk : ps.length ≤ cap := by first | omega | decide) : Calls Tryz.prog 59 #[.agg #[.int .i64 K, .int .i64 R, .slice A ps.length cap]] w fun e w' => e = .returned (.int .i64 (valS K R ps)) ∧ Below w.heap.size w w' := by
  rw [valS_four]
  have cK := fun w' => yknow_b K w'
  cases hK : known K
  focus
    rw [hK] at cK
    rw [if_pos rfl]
    clear hK
    go_enter Tryz.func59, Tryz.ntmps59
    go_wp2_with (go_at_call 124; refine Calls.mono (gw_at (cK _)) ?_; rintro e w1 ⟨rfl, q, rfl⟩)
    go_ret
    exact ⟨rfl, bBel⟩
  rw [hK] at cK
  rw [if_neg (by decide)]
  have cC := fun w' => ycount_b K R A cap ps.length hK w'
  cases hC : cntok K ps.length
  focus
    rw [hC] at cC
    rw [if_pos rfl]
    clear hK hC
    go_enter Tryz.func59, Tryz.ntmps59
    go_wp2_with (first | (go_at_call 124; refine Calls.mono (gw_at (cK _)) ?_; rintro e w1 ⟨rfl, q, rfl⟩) | (go_at_call 125; refine Calls.mono (gw_at (cC _)) ?_; rintro e w1 ⟨rfl, q, rfl⟩))
    go_ret
    exact ⟨rfl, bBel⟩
  rw [hC] at cC
  rw [if_neg (by decide)]
  have cR := fun w' h => yrng_b K R A cap ps hl w' h
  cases hR : rngS K R ps
  focus
    rw [hR] at cR
    rw [if_pos rfl]
    clear hK hC hR
    go_enter Tryz.func59, Tryz.ntmps59
    go_wp2_with (first | (go_at_call 124; refine Calls.mono (gw_at (cK _)) ?_; rintro e w1 ⟨rfl, q, rfl⟩) | (go_at_call 125; refine Calls.mono (gw_at (cC _)) ?_; rintro e w1 ⟨rfl, q, rfl⟩) | (go_at_call 126; refine Calls.mono (gw_at (cR _ (Pts.to hp bBel))) ?_; rintro e w1 ⟨rfl, q, rfl⟩))
    go_ret
    exact ⟨rfl, bBel⟩
  rw [hR] at cR
  rw [if_neg (by decide)]
  have cW := fun w' h => ywell_b K R A cap ps hK hC hl hk w' h
  cases hW : wellS K ps
  focus
    rw [hW] at cW
    rw [if_pos rfl]
    clear hK hC hR hW
    go_enter Tryz.func59, Tryz.ntmps59
    go_wp2_with (first | (go_at_call 124; refine Calls.mono (gw_at (cK _)) ?_; rintro e w1 ⟨rfl, q, rfl⟩) | (go_at_call 125; refine Calls.mono (gw_at (cC _)) ?_; rintro e w1 ⟨rfl, q, rfl⟩) | (go_at_call 126; refine Calls.mono (gw_at (cR _ (Pts.to hp bBel))) ?_; rintro e w1 ⟨rfl, q, rfl⟩) | (go_at_call 127; refine Calls.mono (gw_at (cW _ (Pts.to hp bBel))) ?_; rintro e w1 ⟨rfl, q, rfl⟩))
    go_ret
    exact ⟨rfl, bBel⟩
  rw [hW] at cW
  rw [if_neg (by decide)]
  clear hK hC hR hW
  go_enter Tryz.func59, Tryz.ntmps59
  go_wp2_with (first | (go_at_call 124; refine Calls.mono (gw_at (cK _)) ?_; rintro e w1 ⟨rfl, q, rfl⟩) | (go_at_call 125; refine Calls.mono (gw_at (cC _)) ?_; rintro e w1 ⟨rfl, q, rfl⟩) | (go_at_call 126; refine Calls.mono (gw_at (cR _ (Pts.to hp bBel))) ?_; rintro e w1 ⟨rfl, q, rfl⟩) | (go_at_call 127; refine Calls.mono (gw_at (cW _ (Pts.to hp bBel))) ?_; rintro e w1 ⟨rfl, q, rfl⟩))
  go_ret
  exact ⟨rfl, bBel⟩

end Go.Proofs.YtdmcdicphohlfaaGreat

set_option linter.unusedVariables false
namespace Go.Proofs.YtdmcdicphohlfaaGreat
open Go.RowKit Fx

def vfill (L : List (Int × Int)) (k : Nat) : List (Int × Int) := L.take k ++ List.replicate (L.length - k) (0, 0)
theorem vfill_length {L : List (Int × Int)} {k : Nat} (h : k ≤ L.length) : (vfill L k).length = L.length := by unfold vfill; simp; omega
theorem vfill_zero (L : List (Int × Int)) : vfill L 0 = List.replicate L.length (0, 0) := by unfold vfill; simp
theorem vfill_end (L : List (Int × Int)) : vfill L L.length = L := by unfold vfill; simp
theorem vfill_succ {L : List (Int × Int)} {k : Nat} (h : k < L.length) : vfill L (k + 1) = (vfill L k).set k L[k] := by
  unfold vfill
  rw [List.set_append_right _ _ (by simp; omega)]
  have e : L.length - k = (L.length - (k + 1)) + 1 := by omega
  rw [e, List.replicate_succ]
  have e2 : k - (L.take k).length = 0 := by simp; omega
  have e3 : L.take (k + 1) = L.take k ++ [L[k]] := by rw [List.take_add_one, List.getElem?_eq_getElem h]; rfl
  rw [e2, List.set_cons_zero, e3, List.append_assoc]; rfl

theorem own_fresh {w : World} {B : Nat} {e : TypeId} {v : Value} {ps : List (Int × Int)} (h : w.ownsRow B e 2 v ps.length (pv ps)) : ∃ A cap, v = .slice A ps.length cap ∧ ps.length ≤ cap ∧ cap ≤ maxLen ∧ (A = none → cap = 0) ∧ Pts w A ps ∧ (ps = [] ∨ ∃ b off, A = some ⟨b, off, none⟩ ∧ B ≤ b) := by
  have h2 := h
  obtain ⟨A, cap, e1, e2, h3, h4, h5⟩ := owns_pts h
  obtain ⟨_, ⟨hv, hn⟩ | ⟨g, cap', cur, hv, hb, _⟩⟩ := h2
  · rw [hv] at e1
    obtain ⟨rfl, hl0, rfl⟩ : none = A ∧ 0 = ps.length ∧ 0 = cap := by simpa using e1
    exact ⟨none, 0, by rw [hv, hl0], h3, h4, fun _ => rfl, h5, .inl (List.eq_nil_of_length_eq_zero hl0.symm)⟩
  · rw [hv] at e1
    obtain ⟨rfl, rfl⟩ : some ⟨g, 0, none⟩ = A ∧ cap' = cap := by simpa using e1
    exact ⟨_, _, hv, h3, h4, (fun h => by cases h), h5, .inr ⟨g, 0, rfl, hb⟩⟩

set_option maxRecDepth 100000 in
set_option maxHeartbeats 8000000 in
theorem yvert_b (K R : Int) (A : Option Addr) (cap : Nat) (ps : List (Int × Int)) (px py a : Int) (hl : ps.length ≤ 1000000) (w : World) (hp : Pts w A ps) (hk : ps.length ≤ cap := by first | omega | decide) : Calls Tryz.prog 95 #[.agg #[.int .i64 K, .int .i64 R, .slice A ps.length cap], .agg #[.int .i64 px, .int .i64 py, .int .i64 a]] w (HullR w (core K R ps px py a)) := by
  obtain ⟨i0, hi, hz0, hz1, hz2⟩ := info_parts info_vec
  have cV := fun w' h => yval_b K R A cap ps hl w' h hk
  by_cases hv : valS K R ps = 0
  rotate_left
  · rw [core_no _ _ _ hv]
    have b1 : (valS K R ps != 0) = true := by rw [bne_iff_ne]; exact hv
    generalize valS K R ps = V at *
    clear hv
    go_enter Tryz.func95, Tryz.ntmps95
    go_wp2_with (go_at_call 59; refine Calls.mono (gw_at (cV _ (Pts.to hp bBel))) ?_; rintro e w1 ⟨rfl, q, rfl⟩)
    go_ret
    exact ⟨⟨none, 0, rfl, Nat.le_refl _, by decide, .inl rfl⟩, bBel⟩
  have hlen := (val_len hv).2.1
  rw [core_ok _ _ _ hv]
  rw [hv] at cV
  obtain ⟨L, hL⟩ : ∃ L, ps.map (tr px py a) = L := ⟨_, rfl⟩
  rw [hL]
  have hLl : Hid (L.length = ps.length) := by show _ = _; rw [← hL, List.length_map]
  have hLs : Hid (∀ k (h : k < ps.length), vfill L (k + 1) = (vfill L k).set k (tpx px a ps[k].1 ps[k].2, tpy py a ps[k].1 ps[k].2)) := fun k h => by
    subst hL
    rw [vfill_succ (by rw [List.length_map]; exact h), List.getElem_map]; rfl
  clear hL hv
  go_enter Tryz.func95, Tryz.ntmps95
  go_upto_region 4 with (first | (refine wpList_mk rfl _ _ 31 rfl 24 i0 (.agg #[.int .i64 0, .int .i64 0]) #[.int .i64 0, .int .i64 0] rfl 2 16 Tryz.underlying31 hi hz0 hz1 hz2 _ _ _ _ ps.length ps.length rfl rfl rfl rfl (Nat.le_refl _) (by omega) (by unfold maxLen; omega) ?_) | (go_at_call 59; refine Calls.mono (gw_at (cV _ (Pts.to hp bBel))) ?_; rintro e w1 ⟨rfl, q, rfl⟩))
  refine wp_named ?_
  intro W hW
  have kB : blk W w.heap.size #[.int .i64 K, .int .i64 R, .slice A ps.length cap] 33 := by rw [hW]; exact bBkn
  have kT : blk W (w.heap.size + 1) #[.int .i64 px, .int .i64 py, .int .i64 a] 26 := by rw [hW]; exact bBkn
  have kL : blk W (w.heap.size + 1 + 1 + q.os.size) (pv (vfill L 0)).toArray 24 := by rw [hW]; refine blk_of (c' := _) bBkn ?_; rw [vfill_zero, hLl.out]; exact made_pts _
  have hbW : Below w.heap.size w W := by rw [hW]; exact bBel
  clear hW cV
  have hBw : w.heap.size + 1 < w.heap.size + 1 + 1 + q.os.size := by omega
  generalize w.heap.size + 1 + 1 + q.os.size = B at *
  have okB := blk_older kB
  have ckB_0 : _ = some _ := blk_cell kB 0
  have ckB_1 : _ = some _ := blk_cell kB 1
  have ckB_2 : _ = some _ := blk_cell kB 2
  have fkB_0 := blk_free kB 0
  have fkB_1 := blk_free kB 1
  have fkB_2 := blk_free kB 2
  go_wp2_with fail
  go_loopw [18] (fun i wr => ∃ k : Nat, k ≤ ps.length ∧ i = .int .i64 (k : Int) ∧ blk wr B (pv (vfill L k)).toArray 24 ∧ blk wr (w.heap.size + 1) #[.int .i64 px, .int .i64 py, .int .i64 a] 26 ∧ Below w.heap.size w wr)
    (fun i _ => (ps.length - intOf i).toNat)
  case atStart => exact ⟨0, by omega, rfl, by first | exact kL | exact blk_gw kL, by first | exact kT | exact blk_gw kT, by first | exact hbW | exact bBel⟩
  case round =>
    obtain ⟨k, hkk, rfl, kL2, kT2, hbR⟩ := hrel
    have hszR := hbR.size
    have okT2 := blk_older kT2
    have ckT2_0 : _ = some _ := blk_cell kT2 0
    have ckT2_1 : _ = some _ := blk_cell kT2 1
    have ckT2_2 : _ = some _ := blk_cell kT2 2
    have fkT2_0 := blk_free kT2 0
    have fkT2_1 := blk_free kT2 1
    have fkT2_2 := blk_free kT2 2
    by_cases hlt : k < ps.length
    · have j0 : (0 : Int) ≤ (k : Int) := by omega
      have j1 : (k : Int) < (ps.length : Int) := by omega
      obtain ⟨b2, off2, hA2, hc2⟩ := pts_open0 (Pts.to hp hbR) (by omega)
      subst hA2
      obtain ⟨d0, d1⟩ := hc2 k hlt
      have ob := older_of_cell d0
      have hLk : k < (vfill L k).length := by rw [vfill_length (by rw [hLl.out]; omega), hLl.out]; exact hlt
      obtain ⟨c0, c1⟩ := pv_arr (vfill L k) k hLk
      rw [← blk_cell kL2] at c0 c1
      have f0 := blk_free kL2 (k * 2)
      have f1 := blk_free kL2 (k * 2 + 1)
      have oB := blk_older kL2
      have hs : Hid _ := hLs.out k hlt
      clear hc2
      generalize ps[k].1 = x at *
      generalize ps[k].2 = y at *
      go_wp2_with (go_at_call 70; refine Calls.mono (gw_at (tapp_b _ _ _ _ _ _)) ?_; rintro e w1 ⟨rfl, q2, rfl⟩)
      refine ⟨⟨k + 1, by omega, by go_num, ?_, ?_, bBel⟩, by (try go_num); simp [intOf]; (try omega)⟩
      · rw [hs.out, ← pv_arr_set]; exact (by apply blk_of; (repeat (first | with_reducible exact kL2 | with_reducible apply blk_drew | with_reducible apply blk_gw | with_reducible apply blk_alloc | with_reducible apply blk_set | ((with_reducible apply blk_other); focus omega))); (first | rfl | simp))
      · exact (by apply blk_of; (repeat (first | with_reducible exact kT2 | with_reducible apply blk_drew | with_reducible apply blk_gw | with_reducible apply blk_alloc | with_reducible apply blk_set | ((with_reducible apply blk_other); focus omega))); (first | rfl | simp))
    · obtain rfl : k = ps.length := by omega
      have j1 : ¬ (ps.length : Int) < (ps.length : Int) := by omega
      rw [← hLl.out, vfill_end] at kL2
      go_wp2_with fail
      go_ret
      refine ⟨⟨some ⟨B, 0, none⟩, ps.length, by rw [hLl.out]; rfl, by rw [hLl.out]; exact Nat.le_refl _, by unfold maxLen; omega, (pts_of_list kL2).to bBel⟩, bBel⟩

set_option maxHeartbeats 4000000 in
theorem xeqv_b (A B : Option Addr) (ca cb : Nat) (ps qs : List (Int × Int)) (hl : ps.length ≤ 4611686018427387904) (hm : qs.length ≤ 4611686018427387904) (w : World) (ha : Pts w A ps) (hb : Pts w B qs) : Calls Tryz.prog 212 #[.slice A ps.length ca, .slice B qs.length cb] w fun e w' => e = .returned (.bool (decide (ps = qs))) ∧ Below w.heap.size w w' := by
  obtain ⟨R, hR⟩ : ∃ R, decide (ps = qs) = R := ⟨_, rfl⟩
  rw [hR]
  have hR1 : Hid (R = true ↔ ps = qs) := by show _ ↔ _; rw [← hR]; simp
  clear hR
  by_cases hlen : ps.length = qs.length
  case neg =>
    obtain rfl : R = false := by rw [Bool.eq_false_iff]; intro e; exact hlen (by rw [hR1.out.1 e])
    have b0 : ((ps.length : Int) != (qs.length : Int)) = true := by rw [bne_iff_ne]; omega
    clear hR1 hlen
    go_enter Tryz.func212, Tryz.ntmps212
    go_wp2_with fail
    go_ret
    exact ⟨rfl, bBel⟩
  have hlen2 : Hid (ps.length = qs.length) := hlen
  have b0 : ((ps.length : Int) != (qs.length : Int)) = false := by rw [bne_eq_false_iff_eq]; omega
  clear hlen
  go_enter Tryz.func212, Tryz.ntmps212
  go_wp2_with fail
  go_loopw [13] (fun i wr => ∃ k : Nat, k ≤ ps.length ∧ i = .int .i64 (k : Int) ∧ (∀ j (h1 : j < ps.length) (h2 : j < qs.length), j < k → ps[j] = qs[j]) ∧ ∃ p, wr = gw w p)
    (fun i _ => (ps.length - intOf i).toNat)
  case atStart => exact ⟨0, by omega, rfl, by omega, ⟨⟨w.drawn, #[]⟩, (gw_zero w).symm⟩⟩
  case round =>
    obtain ⟨k, hk, rfl, hall, p, rfl⟩ := hrel
    by_cases hlt : k < ps.length
    · have hlt2 : k < qs.length := by have := hlen2.out; omega
      have i0 : (0 : Int) ≤ (k : Int) := by omega
      have i1 : (k : Int) < (ps.length : Int) := by omega
      have i2 : (k : Int) < (qs.length : Int) := by omega
      obtain ⟨b, off, rfl, hc⟩ := pts_open ha (by omega)
      obtain ⟨b', off', rfl, hc'⟩ := pts_open hb (by omega)
      obtain ⟨d0, d1⟩ := hc p k hlt
      obtain ⟨f0, f1⟩ := hc' p k hlt2
      have ob := older_of_cell d0
      have ob' := older_of_cell f0
      have hno : ¬ ps[k] = qs[k] → R = false := fun h => by
        rw [Bool.eq_false_iff]; intro e; exact h (by have := hR1.out.1 e; subst this; rfl)
      have hsucc : ps[k] = qs[k] → ∀ j (h1 : j < ps.length) (h2 : j < qs.length), j < k + 1 → ps[j] = qs[j] := fun g j h1 h2 hj => by
        rcases (by omega : j < k ∨ j = k) with h3 | rfl
        · exact hall j h1 h2 h3
        · exact g
      have hiff : Hid (ps[k] = qs[k] ↔ (ps[k].1 = qs[k].1 ∧ ps[k].2 = qs[k].2)) := Prod.ext_iff
      clear hc hc' hall
      generalize ps[k].1 = x at *
      generalize ps[k].2 = y at *
      generalize qs[k].1 = x' at *
      generalize qs[k].2 = y' at *
      by_cases c1 : x = x'
      · by_cases c2 : y = y'
        · subst c1 c2
          have hg := hsucc (hiff.out.2 ⟨rfl, rfl⟩)
          clear hno hsucc hiff
          go_wp2_with fail
          refine wp_region_gw (by kernel_rfl) (by kernel_rfl) ?_
          repeat (go_big_quiet_step (fail))
          refine wpQuiet_nil ?_
          intro w1 hw1
          obtain ⟨q, rfl⟩ := hw1
          go_wp2_with fail
          exact ⟨⟨k + 1, by omega, by go_num, hg, gw_gw _ _ _⟩, by (try go_num); simp [intOf]; (try omega)⟩
        · obtain rfl := hno fun h => c2 (hiff.out.1 h).2
          have b1 : (y == y') = false := by rw [beq_eq_false_iff_ne]; exact c2
          clear hno hsucc hiff
          go_wp2_with fail
          refine wp_region_gw (by kernel_rfl) (by kernel_rfl) ?_
          repeat (go_big_quiet_step (fail))
          refine wpQuiet_nil ?_
          intro w1 hw1
          obtain ⟨q, rfl⟩ := hw1
          go_wp2_with fail
          go_ret
          exact ⟨rfl, bBel⟩
      · obtain rfl := hno fun h => c1 (hiff.out.1 h).1
        have b1 : (x == x') = false := by rw [beq_eq_false_iff_ne]; exact c1
        clear hno hsucc hiff
        go_wp2_with fail
        refine wp_region_gw (by kernel_rfl) (by kernel_rfl) ?_
        repeat (go_big_quiet_step (fail))
        refine wpQuiet_nil ?_
        intro w1 hw1
        obtain ⟨q, rfl⟩ := hw1
        go_wp2_with fail
        go_ret
        exact ⟨rfl, bBel⟩
    · obtain rfl : k = ps.length := by omega
      have i1 : ¬ (ps.length : Int) < (ps.length : Int) := by omega
      obtain rfl : R = true := hR1.out.2 (List.ext_getElem hlen2.out fun j h1 h2 => hall j h1 h2 h1)
      clear hall
      go_wp2_with fail
      go_ret
      exact ⟨rfl, bBel⟩

theorem yeqs_b (K R : Int) (A : Option Addr) (ca : Nat) (ps : List (Int × Int)) (K' R' : Int) (B : Option Addr) (cb : Nat) (qs : List (Int × Int)) (hl : ps.length ≤ 1000000) (hm : qs.length ≤ 1000000) (w : World) (ha : Pts w A ps) (hb : Pts w B qs) : Calls Tryz.prog 161 #[.agg #[.int .i64 K, .int .i64 R, .slice A ps.length ca], .agg #[.int .i64 K', .int .i64 R', .slice B qs.length cb]] w fun e w' => e = .returned (.bool (eqS K R ps K' R' qs)) ∧ Below w.heap.size w w' := by
  have cE := fun w' h1 h2 => xeqv_b A B ca cb ps qs (by omega) (by omega) w' h1 h2
  unfold eqS
  generalize decide (ps = qs) = E at *
  by_cases h1 : K = K'
  · by_cases h2 : R = R'
    · have b1 : (K == K') = true := by rw [beq_iff_eq]; exact h1
      have b2 : (R == R') = true := by rw [beq_iff_eq]; exact h2
      rw [decide_eq_true h1, decide_eq_true h2]
      clear h1 h2
      go_enter Tryz.func161, Tryz.ntmps161
      go_wp2_with (go_at_call 212; refine Calls.mono (gw_at (cE _ (Pts.to ha bBel) (Pts.to hb bBel))) ?_; rintro e w1 ⟨rfl, q, rfl⟩)
      go_ret
      exact ⟨rfl, bBel⟩
    · have b1 : (K == K') = true := by rw [beq_iff_eq]; exact h1
      have b2 : (R == R') = false := by rw [beq_eq_false_iff_ne]; exact h2
      rw [decide_eq_true h1, decide_eq_false h2]
      clear h1 h2
      go_enter Tryz.func161, Tryz.ntmps161
      go_wp2_with fail
      go_ret
      exact ⟨rfl, bBel⟩
  · have b1 : (K == K') = false := by rw [beq_eq_false_iff_ne]; exact h1
    rw [decide_eq_false h1]
    clear h1
    go_enter Tryz.func161, Tryz.ntmps161
    go_wp2_with fail
    go_ret
    exact ⟨rfl, bBel⟩

end Go.Proofs.YtdmcdicphohlfaaGreat

set_option linter.unusedVariables false
namespace Go.Proofs.YtdmcdicphohlfaaGreat
open Go.RowKit Fx

set_option maxHeartbeats 4000000 in
theorem ybnd_b (K R : Int) (A : Option Addr) (cap : Nat) (ps : List (Int × Int)) (px py a : Int) (hl : ps.length ≤ 1000000) (w : World) (hp : Pts w A ps) (hk : ps.length ≤ cap := by first | omega | decide) : Calls Tryz.prog 64 #[.agg #[.int .i64 K, .int .i64 R, .slice A ps.length cap], .agg #[.int .i64 px, .int .i64 py, .int .i64 a]] w fun e w' => e = .returned (.agg #[.int .i64 (bndS K R ps px py a).x0, .int .i64 (bndS K R ps px py a).y0, .int .i64 (bndS K R ps px py a).x1, .int .i64 (bndS K R ps px py a).y1]) ∧ Below w.heap.size w w' := by
  have cV := fun w' h => yvert_b K R A cap ps px py a hl w' h hk
  by_cases hv : valS K R ps = 0
  rotate_left
  · have e : bndS K R ps px py a = Bx.zero := if_neg hv
    rw [e]
    rw [core_no _ _ _ hv] at cV
    clear hv e
    go_enter Tryz.func64, Tryz.ntmps64
    go_wp2_with (first | (go_at_call 95; refine Calls.mono (cV _ (Pts.to hp bBel)) ?_; rintro e w1 ⟨⟨A1, cap1, rfl, h11, h12, h13⟩, hb1⟩; obtain ⟨q1, rfl⟩ := gw_of_below hb1; clear hb1) | (go_at_call 134; refine Calls.mono (gw_at (xfp0_b _ _ _)) ?_; rintro e w1 ⟨rfl, q, rfl⟩))
    refine post_named ?_
    intro Z hZ
    have kZ : blk Z (w.heap.size + 1 + 1) #[.int .i64 0, .int .i64 0, .int .i64 0, .int .i64 0] 45 := by rw [hZ]; first | exact bBkn | exact (by apply blk_of; (repeat (first  | with_reducible apply blk_drew | with_reducible apply blk_gw | with_reducible apply blk_alloc | with_reducible apply blk_set | ((with_reducible apply blk_other); focus omega))); (first | rfl | simp))
    have hbZ : Below w.heap.size w Z := by rw [hZ]; exact bBel
    clear hZ
    have okZ := blk_older kZ
    have ckZ_0 : _ = some _ := blk_cell kZ 0
    have ckZ_1 : _ = some _ := blk_cell kZ 1
    have ckZ_2 : _ = some _ := blk_cell kZ 2
    have ckZ_3 : _ = some _ := blk_cell kZ 3
    have fkZ_0 := blk_free kZ 0
    have fkZ_1 := blk_free kZ 1
    have fkZ_2 := blk_free kZ 2
    have fkZ_3 := blk_free kZ 3
    exact bodyPost_ret (v := .agg #[.int .i64 0, .int .i64 0, .int .i64 0, .int .i64 0]) (by simp [results, Tryz.results64, go_sem, ckZ_0, ckZ_1, ckZ_2, ckZ_3]) rfl ⟨rfl, hbZ⟩
  have e : bndS K R ps px py a = (Bx.pts (ps.map (tr px py a))).mar R := if_pos hv
  have hlen := val_len hv
  have hrad := val_rad hv
  rw [e]
  rw [core_ok _ _ _ hv] at cV
  have h0 : 0 < (ps.map (tr px py a)).length := by rw [List.length_map]; omega
  have h8 : (ps.map (tr px py a)).length ≤ 8 := by rw [List.length_map]; omega
  generalize ps.map (tr px py a) = L at *
  have hE : Bx.exp (Bx.pts L) R = (Bx.pts L).mar R := Bx.exp_pos (Bx.val_iff.2 (Bx.pts_ok h0)) hrad.1
  have cE := fun w' => xexp_b (Bx.pts L).x0 (Bx.pts L).y0 (Bx.pts L).x1 (Bx.pts L).y1 R w'
  rw [show Bx.exp ⟨(Bx.pts L).x0, (Bx.pts L).y0, (Bx.pts L).x1, (Bx.pts L).y1⟩ R = (Bx.pts L).mar R from hE] at cE
  have cF := fun (A1 : Option Addr) (c1 : Nat) w' (h : Pts w' A1 L) (h1 : L.length ≤ c1) => xfp_b A1 c1 L w' h (by omega) h1
  rw [decide_eq_true h0] at cF
  clear hv e hlen hrad hE
  generalize (Bx.pts L).mar R = M at *
  generalize (Bx.pts L).x0 = x0 at *
  generalize (Bx.pts L).y0 = y0 at *
  generalize (Bx.pts L).x1 = x1 at *
  generalize (Bx.pts L).y1 = y1 at *
  obtain ⟨u0, v0, u1, v1⟩ := M
  dsimp only at cE ⊢
  go_enter Tryz.func64, Tryz.ntmps64
  go_wp2_with (first | (go_at_call 95; refine Calls.mono (cV _ (Pts.to hp bBel)) ?_; rintro e w1 ⟨⟨A1, cap1, rfl, h11, h12, h13⟩, hb1⟩; obtain ⟨q1, rfl⟩ := gw_of_below hb1; clear hb1) | (go_at_call 134; refine Calls.mono (gw_at (cF _ _ _ (Pts.to h13 bBel) h11)) ?_; rintro e w1 ⟨rfl, q, rfl⟩) | (go_at_call 40; refine Calls.mono (gw_at (cE _)) ?_; rintro e w1 ⟨rfl, q3, rfl⟩))
  refine post_named ?_
  intro Z hZ
  have kZ : blk Z (w.heap.size + 1 + 1) #[.int .i64 u0, .int .i64 v0, .int .i64 u1, .int .i64 v1] 45 := by rw [hZ]; first | exact bBkn | exact (by apply blk_of; (repeat (first  | with_reducible apply blk_drew | with_reducible apply blk_gw | with_reducible apply blk_alloc | with_reducible apply blk_set | ((with_reducible apply blk_other); focus omega))); (first | rfl | simp))
  have hbZ : Below w.heap.size w Z := by rw [hZ]; exact bBel
  clear hZ
  have okZ := blk_older kZ
  have ckZ_0 : _ = some _ := blk_cell kZ 0
  have ckZ_1 : _ = some _ := blk_cell kZ 1
  have ckZ_2 : _ = some _ := blk_cell kZ 2
  have ckZ_3 : _ = some _ := blk_cell kZ 3
  have fkZ_0 := blk_free kZ 0
  have fkZ_1 := blk_free kZ 1
  have fkZ_2 := blk_free kZ 2
  have fkZ_3 := blk_free kZ 3
  exact bodyPost_ret (v := .agg #[.int .i64 u0, .int .i64 v0, .int .i64 u1, .int .i64 v1]) (by simp [results, Tryz.results64, go_sem, ckZ_0, ckZ_1, ckZ_2, ckZ_3]) rfl ⟨rfl, hbZ⟩

set_option maxHeartbeats 8000000 in
theorem yright_b (A : Option Addr) (cap : Nat) (L : List (Int × Int)) (x y : Int) (h8 : L.length ≤ 8) (w : World) (hp : Pts w A L) : Calls Tryz.prog 99 #[.slice A L.length cap, .agg #[.int .i64 x, .int .i64 y]] w fun e w' => e = .returned (.bool (polin L x y)) ∧ Below w.heap.size w w' := by
  obtain ⟨C, hC⟩ : ∃ C, Hid (polin L x y = C) := ⟨polin L x y, rfl⟩
  rw [hC.out]
  have hR1 : Hid (C = true ↔ ∀ i, i < L.length → or3 (hp' L i) (hp' L (i + 1)) (x, y) ≠ -1) := by
    show _ ↔ _; rw [← hC.out]; unfold polin; simp
  clear hC
  go_enter Tryz.func99, Tryz.ntmps99
  go_wp2_with fail
  refine wp_named ?_
  intro W hW
  have kV : blk W w.heap.size #[.int .i64 x, .int .i64 y] 24 := by rw [hW]; exact bBkn
  have hbW : Below w.heap.size w W := by rw [hW]; exact bBel
  clear hW
  have hP : Pts W A L := Pts.to hp hbW
  have hszW := hbW.size
  go_loopw [9] (fun i wr => ∃ k : Nat, k ≤ L.length ∧ i = .int .i64 k ∧ Hid (∀ j, j < k → or3 (hp' L j) (hp' L (j + 1)) (x, y) ≠ -1) ∧ ∃ p, wr = gw W p)
    (fun i _ => (L.length - intOf i).toNat)
  case atStart => exact ⟨0, by omega, rfl, fun j h => absurd h (by omega), ⟨⟨W.drawn, #[]⟩, (gw_zero W).symm⟩⟩
  case round =>
    obtain ⟨k, hk, rfl, hall, p, rfl⟩ := hrel
    by_cases hlt : k < L.length
    · have i0 : (0 : Int) ≤ (k : Int) := by omega
      have i1 : (k : Int) < (L.length : Int) := by omega
      have hmod := Nat.mod_lt (k + 1) (show 0 < L.length by omega)
      have hm : ((k : Int) + 1).tmod (L.length : Int) = (((k + 1) % L.length : Nat) : Int) := next_mod
      have hno : or3 (hp' L k) (hp' L (k + 1)) (x, y) = -1 → C = false := fun h => by
        rw [Bool.eq_false_iff]; intro e; exact hR1.out.1 e k hlt h
      have hsucc : or3 (hp' L k) (hp' L (k + 1)) (x, y) ≠ -1 → Hid (∀ j, j < k + 1 → or3 (hp' L j) (hp' L (j + 1)) (x, y) ≠ -1) := fun g j hj => by
        rcases (by omega : j < k ∨ j = k) with h1 | rfl
        · exact hall.out j h1
        · exact g
      rw [← hp_mod L (k + 1)] at hno hsucc
      generalize (k + 1) % L.length = nx at *
      rw [hp_get hlt, hp_get hmod] at hno hsucc
      have x0 : (0 : Int) ≤ (nx : Int) := by omega
      have x1 : (nx : Int) < (L.length : Int) := by omega
      obtain ⟨b1, off1, hA1, hc1⟩ := pts_open hP (by omega)
      subst hA1
      obtain ⟨d0, d1⟩ := hc1 p k hlt
      have ob := older_of_cell d0
      have cO : ∀ w', Calls Tryz.prog 167 #[.agg #[.int .i64 L[k].1, .int .i64 L[k].2], .agg #[.int .i64 L[nx].1, .int .i64 L[nx].2], .agg #[.int .i64 x, .int .i64 y]] w' fun e w'' => e = .returned (.int .i64 (or3 L[k] L[nx] (x, y))) ∧ Below w'.heap.size w' w'' := fun w' => orient_b _ _ _ _ _ _ w'
      have hcB : ∀ w', Below W.heap.size W w' → w'.cell? ⟨b1, off1 + nx * 2, none⟩ = some (.int .i64 L[nx].1) ∧ w'.cell? ⟨b1, off1 + nx * 2 + 1, none⟩ = some (.int .i64 L[nx].2) := fun w' hb => by
        obtain ⟨b', off', e, hc⟩ := pts_open0 (Pts.to hP hb) (by omega)
        cases e
        exact hc nx hmod
      clear hall hc1 hR1
      generalize or3 L[k] L[nx] (x, y) = O at *
      generalize L[k].1 = xk at *
      generalize L[k].2 = yk at *
      generalize L[nx].1 = xn at *
      generalize L[nx].2 = yn at *
      go_upto_region 4 with fail
      refine wp_named ?_
      intro V hV
      have kF : blk V (W.heap.size + p.os.size) #[.int .i64 xk, .int .i64 yk] 24 := by rw [hV]; first | exact bBkn | exact (by apply blk_of; (repeat (first  | with_reducible apply blk_drew | with_reducible apply blk_gw | with_reducible apply blk_alloc | with_reducible apply blk_set | ((with_reducible apply blk_other); focus omega))); (first | rfl | simp))
      have kV2 : blk V w.heap.size #[.int .i64 x, .int .i64 y] 24 := by rw [hV]; exact (by apply blk_of; (repeat (first | with_reducible exact kV | with_reducible apply blk_drew | with_reducible apply blk_gw | with_reducible apply blk_alloc | with_reducible apply blk_set | ((with_reducible apply blk_other); focus omega))); (first | rfl | simp))
      have hbV : Below W.heap.size W V := by rw [hV]; exact bBel
      clear hV
      obtain ⟨f0, f1⟩ := hcB V hbV
      have of := older_of_cell f0
      generalize W.heap.size + p.os.size = F at *
      have okF := blk_older kF
      have ckF_0 : _ = some _ := blk_cell kF 0
      have ckF_1 : _ = some _ := blk_cell kF 1
      have fkF_0 := blk_free kF 0
      have fkF_1 := blk_free kF 1
      have okV2 := blk_older kV2
      have ckV2_0 : _ = some _ := blk_cell kV2 0
      have ckV2_1 : _ = some _ := blk_cell kV2 1
      have fkV2_0 := blk_free kV2 0
      have fkV2_1 := blk_free kV2 1
      clear hcB
      by_cases c : O = -1
      · obtain rfl := hno c
        have b1 : (O == -1) = true := by rw [beq_iff_eq]; exact c
        clear hno hsucc c
        refine wp_region_gw (by kernel_rfl) (by kernel_rfl) ?_
        repeat (go_big_quiet_step (first | (go_at_call 167; exact gw_call (cO _))))
        refine wpQuiet_nil ?_
        intro w1 hw1
        obtain ⟨q, rfl⟩ := hw1
        go_wp2_with fail
        go_ret
        exact ⟨rfl, Below.trans hbW (Below.mono (Below.trans hbV (Below.mono bBel hbV.size)) hszW)⟩
      · have hg := hsucc c
        have b1 : (O == -1) = false := by rw [beq_eq_false_iff_ne]; exact c
        clear hno hsucc c
        refine wp_region_gw (by kernel_rfl) (by kernel_rfl) ?_
        repeat (go_big_quiet_step (first | (go_at_call 167; exact gw_call (cO _))))
        refine wpQuiet_nil ?_
        intro w1 hw1
        obtain ⟨q, rfl⟩ := hw1
        go_wp2_with fail
        exact ⟨⟨k + 1, by omega, by go_num, hg, gw_of_below (Below.trans hbV (Below.mono bBel hbV.size))⟩, by (try go_num); simp [intOf]; (try omega)⟩
    · obtain rfl : k = L.length := by omega
      have i1 : ¬ (L.length : Int) < (L.length : Int) := by omega
      obtain rfl : C = true := hR1.out.2 hall.out
      clear hall hR1
      go_wp2_with fail
      go_ret
      exact ⟨rfl, bBel⟩

set_option maxHeartbeats 8000000 in
theorem ycon_b (K R : Int) (A : Option Addr) (cap : Nat) (ps : List (Int × Int)) (px py a x y : Int) (hl : ps.length ≤ 1000000) (w : World) (hp : Pts w A ps) (hk : ps.length ≤ cap := by first | omega | decide) : Calls Tryz.prog 38 #[.agg #[.int .i64 K, .int .i64 R, .slice A ps.length cap], .agg #[.int .i64 px, .int .i64 py, .int .i64 a], .agg #[.int .i64 x, .int .i64 y]] w fun e w' => e = .returned (.bool (conS K R ps px py a x y)) ∧ Below w.heap.size w w' := by
  have cV := fun w' h => yvert_b K R A cap ps px py a hl w' h hk
  by_cases hv : valS K R ps = 0
  rotate_left
  · have e : conS K R ps px py a x y = false := by unfold conS; rw [decide_eq_false hv]; rfl
    rw [e]
    rw [core_no _ _ _ hv] at cV
    clear hv e
    go_enter Tryz.func38, Tryz.ntmps38
    go_wp2_with (go_at_call 95; refine Calls.mono (cV _ (Pts.to hp bBel)) ?_; rintro e w1 ⟨⟨A1, cap1, rfl, h11, h12, h13⟩, hb1⟩; obtain ⟨q1, rfl⟩ := gw_of_below hb1; clear hb1)
    go_ret
    exact ⟨rfl, bBel⟩
  have e : conS K R ps px py a x y = conC K R (ps.map (tr px py a)) x y := by unfold conS; rw [decide_eq_true hv]; rfl
  have hlen := val_len hv
  have hK := (valS_zero.1 hv).1
  rw [e]
  rw [core_ok _ _ _ hv] at cV
  have h0 : 0 < (ps.map (tr px py a)).length := by rw [List.length_map]; omega
  have h8 : (ps.map (tr px py a)).length ≤ 8 := by rw [List.length_map]; omega
  have h2 : K = 2 → 1 < (ps.map (tr px py a)).length := fun h => by rw [List.length_map]; omega
  generalize ps.map (tr px py a) = L at *
  obtain ⟨C, hC⟩ : ∃ C, Hid (conC K R L x y = C) := ⟨conC K R L x y, rfl⟩
  rw [hC.out]
  have b0 : ((L.length : Int) == 0) = false := by rw [beq_eq_false_iff_ne]; omega
  clear hv e hlen
  go_enter Tryz.func38, Tryz.ntmps38
  go_upto_region 2 with (go_at_call 95; refine Calls.mono (cV _ (Pts.to hp bBel)) ?_; rintro e w1 ⟨⟨A1, cap1, rfl, h11, h12, h13⟩, hb1⟩; obtain ⟨q1, rfl⟩ := gw_of_below hb1; clear hb1)
  refine wp_named ?_
  intro W hW
  have kB : blk W w.heap.size #[.int .i64 K, .int .i64 R, .slice A ps.length cap] 33 := by rw [hW]; exact bBkn
  have kV : blk W (w.heap.size + 1 + 1) #[.int .i64 x, .int .i64 y] 24 := by rw [hW]; exact bBkn
  have hbW : Below w.heap.size w W := by rw [hW]; exact bBel
  have hP : Pts W A1 L := by rw [hW]; exact Pts.to h13 bBel
  clear hW cV h13
  have hszW := hbW.size
  have okB := blk_older kB
  have ckB_0 : _ = some _ := blk_cell kB 0
  have ckB_1 : _ = some _ := blk_cell kB 1
  have ckB_2 : _ = some _ := blk_cell kB 2
  have fkB_0 := blk_free kB 0
  have fkB_1 := blk_free kB 1
  have fkB_2 := blk_free kB 2
  have okV := blk_older kV
  have ckV_0 : _ = some _ := blk_cell kV 0
  have ckV_1 : _ = some _ := blk_cell kV 1
  have fkV_0 := blk_free kV 0
  have fkV_1 := blk_free kV 1
  obtain ⟨b1, off1, hA1, hc1⟩ := pts_open hP h0
  subst hA1
  obtain ⟨d0, d1⟩ := hc1 ⟨W.drawn, #[]⟩ 0 h0
  rw [gw_zero] at d0 d1
  simp only [Nat.zero_mul, Nat.add_zero] at d0 d1
  have o1 := older_of_cell d0
  have j0 : (0 : Int) < (L.length : Int) := by omega
  rcases (by omega : K = 1 ∨ K = 2 ∨ K = 3) with rfl | rfl | rfl
  · have hC' : C = decide (vlen (sub x L[0].1) (sub y L[0].2) ≤ R) := by rw [← hC.out]; unfold conC; rw [if_pos rfl, hp_get h0]
    clear hC hc1
    generalize L[0].1 = x0 at *
    generalize L[0].2 = y0 at *
    subst hC'
    go_wp2_with fail
    refine wp_region_gw (by kernel_rfl) (by kernel_rfl) ?_
    repeat (go_big_quiet_step ((first | (go_at_call 97; exact gw_call (vsub_b _ _ _ _ _)) | (go_at_call 96; exact gw_call (vlen_b _ _ _)) | (go_at_call 98; exact gw_call (xsdist_b _ _ _ _ _ _ _ _ _)))))
    refine wpQuiet_nil ?_
    intro w1 hw1
    obtain ⟨q, rfl⟩ := hw1
    go_wp2_with fail
    go_ret
    exact ⟨rfl, bBel⟩
  · have h1 : 1 < L.length := h2 rfl
    have j1 : (1 : Int) < (L.length : Int) := by omega
    have hC' : C = decide (sdist x y x y L[0].1 L[0].2 L[1].1 L[1].2 ≤ R) := by rw [← hC.out]; unfold conC; rw [if_neg (by decide), if_pos rfl, hp_get h0, hp_get h1]
    obtain ⟨e0, e1⟩ := hc1 ⟨W.drawn, #[]⟩ 1 h1
    rw [gw_zero] at e0 e1
    simp only [Nat.one_mul] at e0 e1
    clear hC hc1
    generalize L[0].1 = x0 at *
    generalize L[0].2 = y0 at *
    generalize L[1].1 = x1 at *
    generalize L[1].2 = y1 at *
    have cD := fun w' => xsdist_b x y x y x0 y0 x1 y1 w'
    generalize sdist x y x y x0 y0 x1 y1 = D at *
    subst hC'
    go_wp2_with fail
    refine wp_region_gw (by kernel_rfl) (by kernel_rfl) ?_
    repeat (go_big_quiet_step ((first | (go_at_call 98; with_reducible_and_instances exact gw_call (cD _)))))
    refine wpQuiet_nil ?_
    intro w1 hw1
    obtain ⟨q, rfl⟩ := hw1
    go_wp2_with fail
    go_ret
    exact ⟨rfl, bBel⟩
  · have hC' : C = polin L x y := by rw [← hC.out]; unfold conC; rw [if_neg (by decide), if_neg (by decide)]
    have cP := fun w' h => yright_b (some ⟨b1, off1, none⟩) cap1 L x y h8 w' h
    clear hC d0 d1 hc1
    generalize polin L x y = D at *
    subst hC'
    go_wp2_with (go_at_call 99; refine Calls.mono (gw_at (cP _ (Pts.to hP bBel))) ?_; rintro e w1 ⟨rfl, q, rfl⟩)
    go_ret
    exact ⟨rfl, bBel⟩

end Go.Proofs.YtdmcdicphohlfaaGreat
