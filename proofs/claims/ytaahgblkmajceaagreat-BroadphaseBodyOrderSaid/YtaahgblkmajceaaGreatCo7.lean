/- Contracts of the reference of chapter 11: inRange, IsConvex.
Contracts of the reference of chapter 11, continued: cross, Area, Contains, ShortestEdge, Support.
Contracts of the reference of chapter 11, continued: Area, Contains, ShortestEdge, Support.
Contracts of the reference of chapter 11, continued: ShortestEdge, Support.
Contracts of the reference of chapter 11, continued: Centroid.
Contracts of the reference of chapter 11, continued: EqualPoints. -/
import Derived.Test.YtaahgblkmajceaaGreatCo4
import Derived.Test.YtaahgblkmajceaaGreatMa4
import Derived.RegionTactic
import Derived.BigRegion
import Derived.Deep.RegionHeld3
import Derived.Deep.DeepCutAuto

set_option linter.unusedVariables false
namespace Go.Proofs.YtaahgblkmajceaaGreat
open Go.RowKit Fx

theorem rinr_b (x y : Int) (w : World) : Calls Tryz.prog 141 #[.agg #[.int .i64 x, .int .i64 y]] w fun e w' => e = .returned (.bool (inr2 x y)) ∧ Below w.heap.size w w' := by
  have hd : inr2 x y = (decide (-1048576 ≤ x) && decide (x ≤ 1048576) && decide (-1048576 ≤ y) && decide (y ≤ 1048576)) := by
    rw [Bool.eq_iff_iff, inr2, decide_eq_true_iff]
    simp only [Bool.and_eq_true, decide_eq_true_iff]
    unfold inrP
    dsimp only
    omega
  rw [hd]
  go_enter Tryz.func141, Tryz.ntmps141
  go_wp2_with fail
  all_goals (go_ret; refine ⟨?_, bBel⟩; first | rfl | (simp; done) | (simp; omega) | (simp; rw [Bool.eq_iff_iff]; first | (simp; done) | (simp; omega)))

theorem hp_get {ps : List Pt} {i : Nat} (h : i < ps.length) : hp' ps i = ps[i] := hp_lt h
theorem inr_get {ps : List Pt} {i : Nat} (h : i < ps.length) : inr2 ps[i].1 ps[i].2 = decide (inrP ps[i]) := rfl

set_option maxHeartbeats 8000000 in
theorem rconv_b (A : Option Addr) (cap : Nat) (ps : List (Int × Int)) (hl : ps.length ≤ 4611686018427387904) (w : World) (ha : Pts w A ps) : Calls Tryz.prog 119 #[.slice A ps.length cap] w fun e w' => e = .returned (.bool (cvx ps)) ∧ Below w.heap.size w w' := by
  obtain ⟨R, hR⟩ : ∃ R, cvx ps = R := ⟨_, rfl⟩
  rw [hR]
  by_cases n3 : ps.length < 3
  focus
    obtain rfl : R = false := hR.symm.trans (cvx_no fun h => by have := h.1; omega)
    have n3' : (ps.length : Int) < 3 := by omega
    clear hR n3
    generalize ps.length = n at *
    go_enter Tryz.func119, Tryz.ntmps119
    go_wp2_with fail
    go_ret
    exact ⟨rfl, bBel⟩
  have n3' : ¬ (ps.length : Int) < 3 := by omega
  by_cases n8 : 8 < ps.length
  focus
    obtain rfl : R = false := hR.symm.trans (cvx_no fun h => by have := h.2.1; omega)
    have n8' : (8 : Int) < (ps.length : Int) := by omega
    clear hR n3 n8
    go_enter Tryz.func119, Tryz.ntmps119
    go_wp2_with fail
    go_ret
    exact ⟨rfl, bBel⟩
  have n8' : ¬ (8 : Int) < (ps.length : Int) := by omega
  obtain ⟨b, off, rfl, hc⟩ : ∃ b off, A = some ⟨b, off, none⟩ ∧ ∀ i (h : i < ps.length), w.cell? ⟨b, off + i * 2, none⟩ = some (.int .i64 ps[i].1) ∧ w.cell? ⟨b, off + i * 2 + 1, none⟩ = some (.int .i64 ps[i].2) := by
    rcases ha with h | h
    · rw [h] at n3; simp at n3
    · exact h
  have hR1 : Hid (R = true ↔ cvxP ps) := by show _ ↔ _; rw [← hR]; exact cvx_iff
  clear hR ha
  have hcell : ∀ (p : Gw) (i : Nat) (h : i < ps.length), (gw w p).cell? ⟨b, off + i * 2, none⟩ = some (.int .i64 ps[i].1) ∧ (gw w p).cell? ⟨b, off + i * 2 + 1, none⟩ = some (.int .i64 ps[i].2) := fun p i h => by
    obtain ⟨d0, d1⟩ := hc i h
    have hb := World.block_lt_of_cell? w ⟨b, off + i * 2, none⟩ d0
    exact ⟨(cell_gw p hb).trans d0, (cell_gw (a := ⟨b, off + i * 2 + 1, none⟩) p hb).trans d1⟩
  clear hc
  go_enter Tryz.func119, Tryz.ntmps119
  go_wp2_with fail
  go_loopw [4] (fun i wr => ∃ k : Nat, k ≤ ps.length ∧ i = .int .i64 k ∧ (∀ j (h : j < ps.length), j < k → inrP ps[j]) ∧ ∃ p, wr = gw w p)
    (fun i _ => (ps.length - intOf i).toNat)
  case atStart => exact ⟨0, by omega, rfl, by omega, ⟨⟨w.drawn, #[]⟩, by unfold gw; simp⟩⟩
  case round =>
    obtain ⟨k, hk, rfl, hall, p, rfl⟩ := hrel
    by_cases hlt : k < ps.length
    · have i0 : (0 : Int) ≤ (k : Int) := by omega
      have i1 : (k : Int) < (ps.length : Int) := by omega
      obtain ⟨d0, d1⟩ := hcell p k hlt
      have ob := older_of_cell d0
      have cI : ∀ w', Calls Tryz.prog 141 #[.agg #[.int .i64 ps[k].1, .int .i64 ps[k].2]] w' fun e w'' => e = .returned (.bool (decide (inrP ps[k]))) ∧ Below w'.heap.size w' w'' := fun w' => rinr_b ps[k].1 ps[k].2 w'
      have hno : ¬ inrP ps[k] → R = false := fun h => by
        rw [Bool.eq_false_iff]; intro e; exact h ((hR1.out.1 e).2.2.1 _ (List.getElem_mem hlt))
      have hsucc : inrP ps[k] → ∀ j (h : j < ps.length), j < k + 1 → inrP ps[j] := fun g j h hj => by
        rcases (by omega : j < k ∨ j = k) with h1 | rfl
        · exact hall j h h1
        · exact g
      by_cases hin : inrP ps[k]
      · rw [decide_eq_true hin] at cI
        have hg := hsucc hin
        clear hall hno hsucc hin hcell
        generalize ps[k].1 = x at *
        generalize ps[k].2 = y at *
        go_wp2_with (go_at_call 141; refine Calls.mono (gw_at (cI _)) ?_; rintro e w1 ⟨rfl, q, rfl⟩)
        exact ⟨⟨k + 1, by omega, by go_num, hg, gw_gw _ _ _⟩, by (try go_num); simp [intOf]; (try omega)⟩
      · rw [decide_eq_false hin] at cI
        obtain rfl := hno hin
        clear hall hno hsucc hin hcell
        generalize ps[k].1 = x at *
        generalize ps[k].2 = y at *
        go_wp2_with (go_at_call 141; refine Calls.mono (gw_at (cI _)) ?_; rintro e w1 ⟨rfl, q, rfl⟩)
        go_ret
        exact ⟨rfl, bBel⟩
    · obtain rfl : k = ps.length := by omega
      have i1 : ¬ (ps.length : Int) < (ps.length : Int) := by omega
      have hin : Hid (∀ q ∈ ps, inrP q) := fun q hq => by obtain ⟨j, hj, rfl⟩ := List.mem_iff_getElem.1 hq; exact hall j hj hj
      clear hall
      go_wp2_with fail
      go_loopw [5] (fun i wr => ∃ k : Nat, k ≤ ps.length ∧ i = .int .i64 k ∧ (∀ j, j < k → ∀ m, m < ps.length → rowok ps j m) ∧ ∃ p, wr = gw w p)
        (fun i _ => (ps.length - intOf i).toNat)
      case atStart => exact ⟨0, by omega, rfl, by omega, ⟨_, rfl⟩⟩
      case round =>
        obtain ⟨k, hk, rfl, hall, p, rfl⟩ := hrel
        by_cases hlt : k < ps.length
        · have i0 : (0 : Int) ≤ (k : Int) := by omega
          have i2 : (k : Int) < (ps.length : Int) := by omega
          have hmod := Nat.mod_lt (k + 1) (show 0 < ps.length by omega)
          have hm : ((k : Int) + 1).tmod (ps.length : Int) = (((k + 1) % ps.length : Nat) : Int) := by
            rw [show (k : Int) + 1 = ((k + 1 : Nat) : Int) from by omega]; first | exact (Int.ofNat_tmod _ _).symm | exact (Int.natCast_tmod _ _).symm | (rw [Int.tmod_eq_emod_of_nonneg (by omega)]; exact (Int.natCast_emod _ _).symm)
          have hnz : ((ps.length : Int) == 0) = false := by rw [beq_eq_false_iff_ne]; omega
          have hrowd : Hid (∀ m, rowok ps k m ↔ (m = k ∨ m = (k + 1) % ps.length ∨ or3 (hp' ps k) (hp' ps (k + 1)) (hp' ps m) = 1)) := fun m => Iff.rfl
          rw [← hp_mod ps (k + 1)] at hrowd
          generalize (k + 1) % ps.length = nx at *
          have x0 : (0 : Int) ≤ (nx : Int) := by omega
          have x1 : (nx : Int) < (ps.length : Int) := by omega
          have hall2 : Hid (∀ j, j < k → ∀ m, m < ps.length → rowok ps j m) := hall
          clear hall
          go_wp2_with fail
          go_loopw [7] (fun m wx => ∃ m' : Nat, m' ≤ ps.length ∧ m = .int .i64 m' ∧ Hid (∀ j, j < m' → rowok ps k j) ∧ ∃ p, wx = gw w p)
            (fun m _ => (ps.length - intOf m).toNat)
          case atStart => exact ⟨0, by omega, rfl, fun j hj => absurd hj (by omega), ⟨_, rfl⟩⟩
          case round =>
            obtain ⟨m, hm', rfl, hrow, p, rfl⟩ := hrel
            by_cases hml : m < ps.length
            · have m0 : (0 : Int) ≤ (m : Int) := by omega
              have m1 : (m : Int) < (ps.length : Int) := by omega
              have hsucc : rowok ps k m → Hid (∀ j, j < m + 1 → rowok ps k j) := fun g j hj => by
                rcases (by omega : j < m ∨ j = m) with h1 | rfl
                · exact hrow.out j h1
                · exact g
              by_cases c1 : m = k
              · have hg := hsucc ((hrowd.out m).2 (.inl c1))
                have b1 : ((m : Int) != (k : Int)) = false := by simp [c1]
                clear hsucc hrow hall2 hcell hrowd hin c1
                go_wp2_with fail
                refine wp_region_gw (by kernel_rfl) (by kernel_rfl) ?_
                repeat (go_big_quiet_step (fail))
                refine wpQuiet_nil ?_
                intro w1 hw1
                obtain ⟨q, rfl⟩ := hw1
                go_wp2_with fail
                exact ⟨⟨m + 1, by omega, by go_num, hg, gw_gw _ _ _⟩, by (try go_num); simp [intOf]; (try omega)⟩
              · have b1 : ((m : Int) != (k : Int)) = true := by rw [bne_iff_ne]; omega
                by_cases c2 : m = nx
                · have hg := hsucc ((hrowd.out m).2 (.inr (.inl c2)))
                  have b2 : ((m : Int) != (nx : Int)) = false := by simp [c2]
                  clear hsucc hrow hall2 hcell hrowd hin c1 c2
                  go_wp2_with fail
                  refine wp_region_gw (by kernel_rfl) (by kernel_rfl) ?_
                  repeat (go_big_quiet_step (fail))
                  refine wpQuiet_nil ?_
                  intro w1 hw1
                  obtain ⟨q, rfl⟩ := hw1
                  go_wp2_with fail
                  exact ⟨⟨m + 1, by omega, by go_num, hg, gw_gw _ _ _⟩, by (try go_num); simp [intOf]; (try omega)⟩
                · have b2 : ((m : Int) != (nx : Int)) = true := by rw [bne_iff_ne]; omega
                  obtain ⟨d0, d1⟩ := hcell p m hml
                  obtain ⟨e0, e1⟩ := hcell p k hlt
                  obtain ⟨f0, f1⟩ := hcell p nx hmod
                  have ob := older_of_cell d0
                  have hro := hrowd.out m
                  rw [hp_get hlt, hp_get hmod, hp_get hml] at hro
                  have cO : ∀ w', Calls Tryz.prog 142 #[.agg #[.int .i64 ps[k].1, .int .i64 ps[k].2], .agg #[.int .i64 ps[nx].1, .int .i64 ps[nx].2], .agg #[.int .i64 ps[m].1, .int .i64 ps[m].2]] w' fun e w'' => e = .returned (.int .i64 (or3 ps[k] ps[nx] ps[m])) ∧ Below w'.heap.size w' w'' := fun w' => rorient_b _ _ _ _ _ _ w'
                  have hno : ¬ rowok ps k m → R = false := fun h => by
                    rw [Bool.eq_false_iff]; intro e; exact h ((hR1.out.1 e).2.2.2 k hlt m hml)
                  clear hrow hall2 hcell hrowd hin
                  generalize or3 ps[k] ps[nx] ps[m] = O at *
                  generalize ps[k].1 = xk at *
                  generalize ps[k].2 = yk at *
                  generalize ps[nx].1 = xn at *
                  generalize ps[nx].2 = yn at *
                  generalize ps[m].1 = xm at *
                  generalize ps[m].2 = ym at *
                  by_cases c3 : O = 1
                  · have hg := hsucc (hro.2 (.inr (.inr c3)))
                    have b3 : (O != 1) = false := by simp [c3]
                    clear hsucc hno hro c1 c2 c3
                    go_wp2_with fail
                    refine wp_region_gw (by kernel_rfl) (by kernel_rfl) ?_
                    repeat (go_big_quiet_step ((go_at_call 142; exact gw_call (cO _))))
                    refine wpQuiet_nil ?_
                    intro w1 hw1
                    obtain ⟨q, rfl⟩ := hw1
                    go_wp2_with fail
                    exact ⟨⟨m + 1, by omega, by go_num, hg, gw_gw _ _ _⟩, by (try go_num); simp [intOf]; (try omega)⟩
                  · obtain rfl := hno (fun h => by rcases hro.1 h with h | h | h; exact c1 h; exact c2 h; exact c3 h)
                    have b3 : (O != 1) = true := by rw [bne_iff_ne]; exact c3
                    clear hsucc hno hro c1 c2 c3
                    go_wp2_with fail
                    refine wp_region_gw (by kernel_rfl) (by kernel_rfl) ?_
                    repeat (go_big_quiet_step ((go_at_call 142; exact gw_call (cO _))))
                    refine wpQuiet_nil ?_
                    intro w1 hw1
                    obtain ⟨q, rfl⟩ := hw1
                    go_wp2_with fail
                    go_ret
                    exact ⟨rfl, bBel⟩
            · obtain rfl : m = ps.length := by omega
              have m1 : ¬ (ps.length : Int) < (ps.length : Int) := by omega
              have hg : ∀ j, j < k + 1 → ∀ m, m < ps.length → rowok ps j m := fun j hj a ha2 => by
                rcases (by omega : j < k ∨ j = k) with h1 | h1
                · exact hall2.out j h1 a ha2
                · rw [h1]; exact hrow.out a ha2
              clear hrow hall2 hcell hrowd hin
              go_wp2_with fail
              exact ⟨⟨k + 1, by omega, by go_num, hg, ⟨_, rfl⟩⟩, by (try go_num); simp [intOf]; (try omega)⟩
        · obtain rfl : k = ps.length := by omega
          have i2 : ¬ (ps.length : Int) < (ps.length : Int) := by omega
          obtain rfl : R = true := hR1.out.2 ⟨by omega, by omega, hin.out, hall⟩
          clear hall
          go_wp2_with fail
          go_ret
          exact ⟨rfl, bBel⟩

end Go.Proofs.YtaahgblkmajceaaGreat

set_option linter.unusedVariables false
namespace Go.Proofs.YtaahgblkmajceaaGreat
open Go.RowKit Fx

theorem pts_open {w : World} {A : Option Addr} {ps : List (Int × Int)} (ha : Pts w A ps) (h0 : 0 < ps.length) : ∃ b off, A = some ⟨b, off, none⟩ ∧ ∀ (p : Gw) (i : Nat) (h : i < ps.length), (gw w p).cell? ⟨b, off + i * 2, none⟩ = some (.int .i64 ps[i].1) ∧ (gw w p).cell? ⟨b, off + i * 2 + 1, none⟩ = some (.int .i64 ps[i].2) := by
  rcases ha with h | ⟨b, off, rfl, hc⟩
  · rw [h] at h0; simp at h0
  refine ⟨b, off, rfl, fun p i h => ?_⟩
  obtain ⟨d0, d1⟩ := hc i h
  have hb := World.block_lt_of_cell? w ⟨b, off + i * 2, none⟩ d0
  exact ⟨(cell_gw p hb).trans d0, (cell_gw (a := ⟨b, off + i * 2 + 1, none⟩) p hb).trans d1⟩
theorem gw_zero (w : World) : gw w ⟨w.drawn, #[]⟩ = w := by unfold gw; simp
theorem pts_open0 {w : World} {A : Option Addr} {ps : List (Int × Int)} (ha : Pts w A ps) (h0 : 0 < ps.length) : ∃ b off, A = some ⟨b, off, none⟩ ∧ ∀ (i : Nat) (h : i < ps.length), w.cell? ⟨b, off + i * 2, none⟩ = some (.int .i64 ps[i].1) ∧ w.cell? ⟨b, off + i * 2 + 1, none⟩ = some (.int .i64 ps[i].2) := by
  obtain ⟨b, off, rfl, hc⟩ := pts_open ha h0
  exact ⟨b, off, rfl, fun i h => by have := hc ⟨w.drawn, #[]⟩ i h; rw [gw_zero] at this; exact this⟩

set_option maxHeartbeats 4000000 in
theorem rcrs_b (A : Option Addr) (cap : Nat) (ps : List (Int × Int)) (i : Nat) (hi : i + 1 < ps.length) (hl : ps.length ≤ 8) (hin : ∀ p ∈ ps, inrP p) (w : World) (ha : Pts w A ps) : Calls Tryz.prog 143 #[.slice A ps.length cap, .int .i64 i] w fun e w' => e = .returned (.int .i64 (crs ps i)) ∧ Below w.heap.size w w' := by
  obtain ⟨b, off, rfl, hc⟩ := pts_open0 ha (by omega)
  obtain ⟨a0, a1⟩ := hc 0 (by omega)
  obtain ⟨b0, b1⟩ := hc i (by omega)
  obtain ⟨c0, c1⟩ := hc (i + 1) hi
  have ob := older_of_cell a0
  rw [Nat.zero_mul, Nat.add_zero] at a0 a1
  have ia := hin _ (List.getElem_mem (show 0 < ps.length by omega))
  have ib := hin _ (List.getElem_mem (show i < ps.length by omega))
  have ic := hin _ (List.getElem_mem hi)
  unfold crs
  rw [hp_get (show 0 < ps.length by omega), hp_get (show i < ps.length by omega), hp_get hi]
  unfold inrP at ia ib ic
  have m1 := mul_between (a := ps[i].1 - ps[0].1) (b := ps[i + 1].2 - ps[0].2) (A := 2097152) (B := 2097152) (by omega) (by omega) (by omega) (by omega)
  have m2 := mul_between (a := ps[i].2 - ps[0].2) (b := ps[i + 1].1 - ps[0].1) (A := 2097152) (B := 2097152) (by omega) (by omega) (by omega) (by omega)
  have i0 : (0 : Int) ≤ (i : Int) := by omega
  have i1 : (i : Int) < (ps.length : Int) := by omega
  have i2 : (i : Int) + 1 < (ps.length : Int) := by omega
  have i3 : (0 : Int) < (ps.length : Int) := by omega
  have i4 : (ps.length : Int) ≤ 8 := by omega
  obtain ⟨ia1, ia2, ia3, ia4⟩ := ia
  obtain ⟨ib1, ib2, ib3, ib4⟩ := ib
  obtain ⟨ic1, ic2, ic3, ic4⟩ := ic
  clear hc hin ha
  generalize ps[0].1 = x0 at *
  generalize ps[0].2 = y0 at *
  generalize ps[i].1 = x1 at *
  generalize ps[i].2 = y1 at *
  generalize ps[i + 1].1 = x2 at *
  generalize ps[i + 1].2 = y2 at *
  go_enter Tryz.func143, Tryz.ntmps143
  go_wp2_with (first | (go_at_call 144; refine Calls.mono (gw_at (rrd_b _ _ _)) ?_; rintro e w1 ⟨rfl, q, rfl⟩))
  repeat
    first
      | (apply wp_box1 22 63 21 5 #[.int .i64 0, .int .i64 0] 32 (by kernel_rfl) (by rfl) (by decide +kernel) (by intro o ho a w; simp at ho; subst ho; simp [go_sem, ptr])
         · intro p0
           simp only [heads, ghost, List.take_succ_cons, List.take_zero, List.map_cons, List.map_nil]
           repeat (go_big_quiet_step ((first | (go_at_call 144; exact gw_call (rrd_b _ _ _)))))
           exact wpQuiet_nil rfl
         · intro R bB p0 nB gB  kB hK
           simp only [List.drop_succ_cons, List.drop_zero, Act.put, ptr, List.setIfInBounds_toArray, List.set_cons_succ, List.set_cons_zero]
           have cB_0 : _ = some _ := blk_cell kB 0
           have cB_1 : _ = some _ := blk_cell kB 1
           have fB_0 := blk_free kB 0
           have fB_1 := blk_free kB 1
           have oB := blk_older kB
           go_wp2_with fail
           refine box_end1 gB hK ?_ ?_
           · exact bBel
           · exact (by repeat' (first | with_reducible assumption | with_reducible apply blk_gw | with_reducible apply blk_alloc | with_reducible apply blk_set | ((with_reducible apply blk_other); focus (first | omega | assumption))))
         intro bB p0 nB  kB
         have cB_0 : _ = some _ := blk_cell kB 0
         have cB_1 : _ = some _ := blk_cell kB 1
         have fB_0 := blk_free kB 0
         have fB_1 := blk_free kB 1
         have oB := blk_older kB)
      | (apply wp_box1 24 63 23 6 #[.int .i64 0, .int .i64 0] 32 (by kernel_rfl) (by rfl) (by decide +kernel) (by intro o ho a w; simp at ho; subst ho; simp [go_sem, ptr])
         · intro p0
           simp only [heads, ghost, List.take_succ_cons, List.take_zero, List.map_cons, List.map_nil]
           repeat (go_big_quiet_step ((first | (go_at_call 144; exact gw_call (rrd_b _ _ _)))))
           exact wpQuiet_nil rfl
         · intro R bB p0 nB gB  kB hK
           simp only [List.drop_succ_cons, List.drop_zero, Act.put, ptr, List.setIfInBounds_toArray, List.set_cons_succ, List.set_cons_zero]
           have cB_0 : _ = some _ := blk_cell kB 0
           have cB_1 : _ = some _ := blk_cell kB 1
           have fB_0 := blk_free kB 0
           have fB_1 := blk_free kB 1
           have oB := blk_older kB
           go_wp2_with fail
           refine box_end1 gB hK ?_ ?_
           · exact bBel
           · exact (by repeat' (first | with_reducible assumption | with_reducible apply blk_gw | with_reducible apply blk_alloc | with_reducible apply blk_set | ((with_reducible apply blk_other); focus (first | omega | assumption))))
         intro bB p0 nB  kB
         have cB_0 : _ = some _ := blk_cell kB 0
         have cB_1 : _ = some _ := blk_cell kB 1
         have fB_0 := blk_free kB 0
         have fB_1 := blk_free kB 1
         have oB := blk_older kB)
    go_wp2_with (first | (go_at_call 144; refine Calls.mono (gw_at (rrd_b _ _ _)) ?_; rintro e w1 ⟨rfl, q, rfl⟩))
  go_ret
  exact ⟨rfl, bBel⟩

end Go.Proofs.YtaahgblkmajceaaGreat

set_option linter.unusedVariables false
namespace Go.Proofs.YtaahgblkmajceaaGreat
open Go.RowKit Fx

set_option maxHeartbeats 4000000 in
theorem rarea_b (A : Option Addr) (cap : Nat) (ps : List (Int × Int)) (hl : ps.length ≤ 4611686018427387904) (w : World) (ha : Pts w A ps) : Calls Tryz.prog 121 #[.slice A ps.length cap] w fun e w' => e = .returned (.int .i64 (areaP ps)) ∧ Below w.heap.size w w' := by
  have cV := fun w' h => rconv_b A cap ps hl w' h
  unfold areaP
  cases hR : cvx ps
  focus
    rw [hR] at cV
    rw [if_neg (by simp)]
    clear hR
    go_enter Tryz.func121, Tryz.ntmps121
    go_wp2_with (go_at_call 119; refine Calls.mono (gw_at (cV _ (Pts.to ha bBel))) ?_; rintro e w1 ⟨rfl, q, rfl⟩)
    go_ret
    exact ⟨rfl, bBel⟩
  rw [hR] at cV
  rw [if_pos rfl]
  obtain ⟨n3, n8, hin, -⟩ := cvx_iff.1 hR
  have hin2 : Hid (∀ p ∈ ps, inrP p) := hin
  have n3' : (3 : Int) ≤ (ps.length : Int) := by omega
  have n8' : (ps.length : Int) ≤ 8 := by omega
  obtain ⟨S, hS0⟩ : ∃ S, Hid (crsS ps (ps.length - 2) = S) := ⟨_, rfl⟩
  rw [hS0.out]
  clear hR hin
  go_enter Tryz.func121, Tryz.ntmps121
  go_wp2_with (go_at_call 119; refine Calls.mono (gw_at (cV _ (Pts.to ha bBel))) ?_; rintro e w1 ⟨rfl, q, rfl⟩)
  clear cV
  go_loopw [3, 4] (fun s i wr => ∃ k : Nat, k + 2 ≤ ps.length ∧ s = .int .i64 (crsS ps k) ∧ i = .int .i64 ((k : Int) + 1) ∧ ∃ p, wr = gw w p)
    (fun _ i _ => (ps.length - intOf i).toNat)
  case atStart => exact ⟨0, by omega, rfl, rfl, ⟨_, rfl⟩⟩
  case round =>
    obtain ⟨k, hk, rfl, rfl, p, rfl⟩ := hrel
    have hs := crsS_in (ps := ps) (by omega) hin2.out k
    by_cases hlt : k + 2 < ps.length
    · have i1 : (k : Int) + 1 + 1 < (ps.length : Int) := by omega
      have hs2 := crs_in (ps := ps) (by omega) hin2.out (k + 1)
      have cC : ∀ w', Pts w' A ps → Calls Tryz.prog 143 #[.slice A ps.length cap, .int .i64 ((k : Int) + 1)] w' fun e w'' => e = .returned (.int .i64 (crs ps (k + 1))) ∧ Below w'.heap.size w' w'' := fun w' h => by
        have := rcrs_b A cap ps (k + 1) (by omega) n8 hin2.out w' h
        rw [show ((k + 1 : Nat) : Int) = (k : Int) + 1 from by omega] at this
        exact this
      have hS : Hid (crsS ps (k + 1) = crsS ps k + crs ps (k + 1)) := rfl
      have k8 : (k : Int) ≤ 8 := by omega
      generalize crs ps (k + 1) = c at *
      generalize crsS ps k = s at *
      go_wp2_with (go_at_call 143; refine Calls.mono (gw_at (cC _ (Pts.to ha bBel))) ?_; rintro e w1 ⟨rfl, q, rfl⟩)
      exact ⟨⟨k + 1, by omega, by rw [hS.out]; try go_num, by go_num, gw_gw _ _ _⟩, by (try go_num); simp [intOf]; (try omega)⟩
    · have i1 : ¬ (k : Int) + 1 + 1 < (ps.length : Int) := by omega
      have e : k = ps.length - 2 := by omega
      rw [e, hS0.out] at hs
      rw [e, hS0.out]
      clear e
      go_wp2_with (go_at_call 144; refine Calls.mono (gw_at (rrd_b _ _ _)) ?_; rintro e w1 ⟨rfl, q, rfl⟩)
      go_ret
      exact ⟨rfl, bBel⟩

end Go.Proofs.YtaahgblkmajceaaGreat

set_option linter.unusedVariables false
namespace Go.Proofs.YtaahgblkmajceaaGreat
open Go.RowKit Fx

theorem next_mod {k n : Nat} : ((k : Int) + 1).tmod (n : Int) = (((k + 1) % n : Nat) : Int) := by
  rw [show (k : Int) + 1 = ((k + 1 : Nat) : Int) from by omega]; first | exact (Int.ofNat_tmod _ _).symm | exact (Int.natCast_tmod _ _).symm | (rw [Int.tmod_eq_emod_of_nonneg (by omega)]; exact (Int.natCast_emod _ _).symm)

set_option maxHeartbeats 4000000 in
theorem rshort_b (A : Option Addr) (cap : Nat) (ps : List (Int × Int)) (hl : ps.length ≤ 4611686018427387904) (w : World) (ha : Pts w A ps) : Calls Tryz.prog 120 #[.slice A ps.length cap] w fun e w' => e = .returned (.int .i64 (shortP ps)) ∧ Below w.heap.size w w' := by
  have cV := fun w' h => rconv_b A cap ps hl w' h
  unfold shortP
  cases hR : cvx ps
  focus
    rw [hR] at cV
    rw [if_neg (by simp)]
    clear hR
    go_enter Tryz.func120, Tryz.ntmps120
    go_wp2_with (go_at_call 119; refine Calls.mono (gw_at (cV _ (Pts.to ha bBel))) ?_; rintro e w1 ⟨rfl, q, rfl⟩)
    go_ret
    exact ⟨rfl, bBel⟩
  rw [hR] at cV
  rw [if_pos rfl]
  obtain ⟨n3, n8, -, -⟩ := cvx_iff.1 hR
  obtain ⟨b, off, rfl, hcell⟩ := pts_open ha (by omega)
  have n3' : (3 : Int) ≤ (ps.length : Int) := by omega
  have n8' : (ps.length : Int) ≤ 8 := by omega
  obtain ⟨S, hS0⟩ : ∃ S, Hid (shr ps ps.length = S) := ⟨_, rfl⟩
  rw [hS0.out]
  clear hR
  go_enter Tryz.func120, Tryz.ntmps120
  go_wp2_with (go_at_call 119; refine Calls.mono (gw_at (cV _ (Pts.to ha bBel))) ?_; rintro e w1 ⟨rfl, q, rfl⟩)
  clear cV
  go_loopw [3, 4] (fun s i wr => ∃ k : Nat, k ≤ ps.length ∧ s = .int .i64 (shr ps k) ∧ i = .int .i64 k ∧ ∃ p, wr = gw w p)
    (fun _ i _ => (ps.length - intOf i).toNat)
  case atStart => exact ⟨0, by omega, rfl, rfl, ⟨_, rfl⟩⟩
  case round =>
    obtain ⟨k, hk, rfl, rfl, p, rfl⟩ := hrel
    by_cases hlt : k < ps.length
    · have i0 : (0 : Int) ≤ (k : Int) := by omega
      have i1 : (k : Int) < (ps.length : Int) := by omega
      have hmod := Nat.mod_lt (k + 1) (show 0 < ps.length by omega)
      have hm : ((k : Int) + 1).tmod (ps.length : Int) = (((k + 1) % ps.length : Nat) : Int) := next_mod
      have hnz : ((ps.length : Int) == 0) = false := by rw [beq_eq_false_iff_ne]; omega
      have hS1 : Hid (shr ps (k + 1) = if shr ps k < 0 ∨ edg ps k < shr ps k then edg ps k else shr ps k) := rfl
      have hE : edg ps k = vlen (sub (hp' ps (k + 1)).1 (hp' ps k).1) (sub (hp' ps (k + 1)).2 (hp' ps k).2) := rfl
      rw [← hp_mod ps (k + 1)] at hE
      generalize (k + 1) % ps.length = nx at *
      rw [hp_get hlt, hp_get hmod] at hE
      have x0 : (0 : Int) ≤ (nx : Int) := by omega
      have x1 : (nx : Int) < (ps.length : Int) := by omega
      obtain ⟨d0, d1⟩ := hcell p k hlt
      obtain ⟨f0, f1⟩ := hcell p nx hmod
      have ob := older_of_cell d0
      have cS : ∀ w', Calls Tryz.prog 118 #[.agg #[.int .i64 ps[nx].1, .int .i64 ps[nx].2], .agg #[.int .i64 ps[k].1, .int .i64 ps[k].2]] w' fun e w'' => e = .returned (.agg #[.int .i64 (sub ps[nx].1 ps[k].1), .int .i64 (sub ps[nx].2 ps[k].2)]) ∧ Below w'.heap.size w' w'' := fun w' => rvsub_b _ _ _ _ w'
      have cL : ∀ w', Calls Tryz.prog 117 #[.agg #[.int .i64 (sub ps[nx].1 ps[k].1), .int .i64 (sub ps[nx].2 ps[k].2)]] w' fun e w'' => e = .returned (.int .i64 (edg ps k)) ∧ Below w'.heap.size w' w'' := fun w' => by rw [hE]; exact rvlen_b _ _ w'
      clear hcell hE
      generalize edg ps k = E at *
      generalize sub ps[nx].1 ps[k].1 = u at *
      generalize sub ps[nx].2 ps[k].2 = v at *
      generalize ps[k].1 = xk at *
      generalize ps[k].2 = yk at *
      generalize ps[nx].1 = xn at *
      generalize ps[nx].2 = yn at *
      generalize shr ps k = s at *
      go_wp2_with fail
      refine wp_region_gw (by kernel_rfl) (by kernel_rfl) ?_
      repeat (go_big_quiet_step ((first | (go_at_call 118; exact gw_call (cS _)) | (go_at_call 117; exact gw_call (cL _)))))
      refine wpQuiet_nil ?_
      intro w1 hw1
      obtain ⟨q, rfl⟩ := hw1
      by_cases c1 : s < 0
      · have hv := hS1.out
        rw [if_pos (.inl c1)] at hv
        have hv' : Hid (shr ps (k + 1) = E) := hv
        clear hv hS1
        go_wp2_with fail
        exact ⟨⟨k + 1, by omega, by rw [hv'.out], by go_num, gw_gw _ _ _⟩, by (try go_num); simp [intOf]; (try omega)⟩
      · by_cases c2 : E < s
        · have hv := hS1.out
          rw [if_pos (.inr c2)] at hv
          have hv' : Hid (shr ps (k + 1) = E) := hv
          clear hv hS1
          go_wp2_with fail
          exact ⟨⟨k + 1, by omega, by rw [hv'.out], by go_num, gw_gw _ _ _⟩, by (try go_num); simp [intOf]; (try omega)⟩
        · have hv := hS1.out
          rw [if_neg (by omega)] at hv
          have hv' : Hid (shr ps (k + 1) = s) := hv
          clear hv hS1
          go_wp2_with fail
          exact ⟨⟨k + 1, by omega, by rw [hv'.out], by go_num, gw_gw _ _ _⟩, by (try go_num); simp [intOf]; (try omega)⟩
    · obtain rfl : k = ps.length := by omega
      have i1 : ¬ (ps.length : Int) < (ps.length : Int) := by omega
      rw [hS0.out]
      clear hcell
      go_wp2_with fail
      go_ret
      exact ⟨rfl, bBel⟩

theorem dots_in (p : Pt) (x y : Int) : -576460752303423488 ≤ dots p x y ∧ dots p x y ≤ 576460752303423488 := by
  have a0 := sat_le p.1; have a1 := sat_ge p.1; have b0 := sat_le p.2; have b1 := sat_ge p.2
  have c0 := sat_le x; have c1 := sat_ge x; have d0 := sat_le y; have d1 := sat_ge y
  have m1 := mul_between (a := sat p.1) (b := sat x) (A := 536870912) (B := 536870912) (by omega) (by omega) (by omega) (by omega)
  have m2 := mul_between (a := sat p.2) (b := sat y) (A := 536870912) (B := 536870912) (by omega) (by omega) (by omega) (by omega)
  unfold dots; omega

end Go.Proofs.YtaahgblkmajceaaGreat

set_option linter.unusedVariables false
namespace Go.Proofs.YtaahgblkmajceaaGreat
open Go.RowKit Fx

theorem post_nmd {P : Program} {fn : Func} {R : Ending → World → Prop} {a : Act} {w : World} {x : Exit} (h : ∀ Z, Z = w → bodyPost P fn R x a Z) : bodyPost P fn R x a w := h w rfl
theorem rdiv_abs (n d : Int) : -n.natAbs ≤ rdiv n d ∧ rdiv n d ≤ n.natAbs := by
  unfold rdiv
  split
  · rename_i h
    exact rcore_bounds (by unfold rok at h; simp only [Bool.and_eq_true, decide_eq_true_iff] at h; omega)
  · omega

end Go.Proofs.YtaahgblkmajceaaGreat

set_option linter.unusedVariables false
namespace Go.Proofs.YtaahgblkmajceaaGreat
open Go.RowKit Fx

end Go.Proofs.YtaahgblkmajceaaGreat
