/- Contracts of the reference of chapter 11: inRange, IsConvex.
Contracts of the reference of chapter 11, continued: cross, Area, Contains, ShortestEdge, Support.
Contracts of the reference of chapter 11, continued: Area, Contains, ShortestEdge, Support.
Contracts of the reference of chapter 11, continued: ShortestEdge, Support.
Contracts of the reference of chapter 11, continued: Centroid.
Contracts of the reference of chapter 11, continued: EqualPoints. -/
import Derived.Test.YtdmcdicphohlfaaGreatCo4
import Derived.Test.YtdmcdicphohlfaaGreatMa4
import Derived.RegionTactic
import Derived.BigRegion
import Derived.Deep.RegionHeld3
import Derived.Deep.DeepCutAuto

set_option linter.unusedVariables false
namespace Go.Proofs.YtdmcdicphohlfaaGreat
open Go.RowKit Fx

theorem rinr_b (x y : Int) (w : World) : Calls Tryz.prog 186 #[.agg #[.int .i64 x, .int .i64 y]] w fun e w' => e = .returned (.bool (inr2 x y)) ∧ Below w.heap.size w w' := by
  have hd : inr2 x y = (decide (-1048576 ≤ x) && decide (x ≤ 1048576) && decide (-1048576 ≤ y) && decide (y ≤ 1048576)) := by
    rw [Bool.eq_iff_iff, inr2, decide_eq_true_iff]
    simp only [Bool.and_eq_true, decide_eq_true_iff]
    unfold inrP
    dsimp only
    omega
  rw [hd]
  go_enter Tryz.func186, Tryz.ntmps186
  go_wp2_with fail
  all_goals (go_ret; refine ⟨?_, bBel⟩; first | rfl | (simp; done) | (simp; omega) | (simp; rw [Bool.eq_iff_iff]; first | (simp; done) | (simp; omega)))

theorem hp_get {ps : List Pt} {i : Nat} (h : i < ps.length) : hp' ps i = ps[i] := hp_lt h
set_option maxHeartbeats 8000000 in
theorem rconv_b (A : Option Addr) (cap : Nat) (ps : List (Int × Int)) (hl : ps.length ≤ 4611686018427387904) (w : World) (ha : Pts w A ps) : Calls Tryz.prog 131 #[.slice A ps.length cap] w fun e w' => e = .returned (.bool (cvx ps)) ∧ Below w.heap.size w w' := by
  obtain ⟨R, hR⟩ : ∃ R, cvx ps = R := ⟨_, rfl⟩
  rw [hR]
  by_cases n3 : ps.length < 3
  focus
    obtain rfl : R = false := hR.symm.trans (cvx_no fun h => by have := h.1; omega)
    have n3' : (ps.length : Int) < 3 := by omega
    clear hR n3
    generalize ps.length = n at *
    go_enter Tryz.func131, Tryz.ntmps131
    go_wp2_with fail
    go_ret
    exact ⟨rfl, bBel⟩
  have n3' : ¬ (ps.length : Int) < 3 := by omega
  by_cases n8 : 8 < ps.length
  focus
    obtain rfl : R = false := hR.symm.trans (cvx_no fun h => by have := h.2.1; omega)
    have n8' : (8 : Int) < (ps.length : Int) := by omega
    clear hR n3 n8
    go_enter Tryz.func131, Tryz.ntmps131
    go_wp2_with fail
    go_ret
    exact ⟨rfl, bBel⟩
  have n8' : ¬ (8 : Int) < (ps.length : Int) := by omega
  obtain ⟨b, off, rfl, hc⟩ : ∃ b off, A = some ⟨b, off, none⟩ ∧ ∀ i (h : i < ps.length), w.cell? ⟨b, off + i * 2, none⟩ = some (.int .i64 ps[i].1) ∧ w.cell? ⟨b, off + i * 2 + 1, none⟩ = some (.int .i64 ps[i].2) := by
    rcases ha with h | h
    · rw [h] at n3; simp at n3
    · exact h
  have hR1 : Hid (R = true ↔ cvxP ps) := by show _ ↔ _; rw [← hR]; exact cvx_iff
  clear hR ha
  have hcell : ∀ (p : Gw) (i : Nat) (h : i < ps.length), (gw w p).cell? ⟨b, off + i * 2, none⟩ = some (.int .i64 ps[i].1) ∧ (gw w p).cell? ⟨b, off + i * 2 + 1, none⟩ = some (.int .i64 ps[i].2) := fun p i h => by
    obtain ⟨d0, d1⟩ := hc i h
    have hb := World.block_lt_of_cell? w ⟨b, off + i * 2, none⟩ d0
    exact ⟨(cell_gw p hb).trans d0, (cell_gw (a := ⟨b, off + i * 2 + 1, none⟩) p hb).trans d1⟩
  clear hc
  go_enter Tryz.func131, Tryz.ntmps131
  go_wp2_with fail
  go_loopw [4] (fun i wr => ∃ k : Nat, k ≤ ps.length ∧ i = .int .i64 k ∧ (∀ j (h : j < ps.length), j < k → inrP ps[j]) ∧ ∃ p, wr = gw w p)
    (fun i _ => (ps.length - intOf i).toNat)
  case atStart => exact ⟨0, by omega, rfl, by omega, ⟨⟨w.drawn, #[]⟩, by unfold gw; simp⟩⟩
  case round =>
    obtain ⟨k, hk, rfl, hall, p, rfl⟩ := hrel
    by_cases hlt : k < ps.length
    · have i0 : (0 : Int) ≤ (k : Int) := by omega
      have i1 : (k : Int) < (ps.length : Int) := by omega
      obtain ⟨d0, d1⟩ := hcell p k hlt
      have ob := older_of_cell d0
      have cI : ∀ w', Calls Tryz.prog 186 #[.agg #[.int .i64 ps[k].1, .int .i64 ps[k].2]] w' fun e w'' => e = .returned (.bool (decide (inrP ps[k]))) ∧ Below w'.heap.size w' w'' := fun w' => rinr_b ps[k].1 ps[k].2 w'
      have hno : ¬ inrP ps[k] → R = false := fun h => by
        rw [Bool.eq_false_iff]; intro e; exact h ((hR1.out.1 e).2.2.1 _ (List.getElem_mem hlt))
      have hsucc : inrP ps[k] → ∀ j (h : j < ps.length), j < k + 1 → inrP ps[j] := fun g j h hj => by
        rcases (by omega : j < k ∨ j = k) with h1 | rfl
        · exact hall j h h1
        · exact g
      by_cases hin : inrP ps[k]
      · rw [decide_eq_true hin] at cI
        have hg := hsucc hin
        clear hall hno hsucc hin hcell
        generalize ps[k].1 = x at *
        generalize ps[k].2 = y at *
        go_wp2_with (go_at_call 186; refine Calls.mono (gw_at (cI _)) ?_; rintro e w1 ⟨rfl, q, rfl⟩)
        exact ⟨⟨k + 1, by omega, by go_num, hg, gw_gw _ _ _⟩, by (try go_num); simp [intOf]; (try omega)⟩
      · rw [decide_eq_false hin] at cI
        obtain rfl := hno hin
        clear hall hno hsucc hin hcell
        generalize ps[k].1 = x at *
        generalize ps[k].2 = y at *
        go_wp2_with (go_at_call 186; refine Calls.mono (gw_at (cI _)) ?_; rintro e w1 ⟨rfl, q, rfl⟩)
        go_ret
        exact ⟨rfl, bBel⟩
    · obtain rfl : k = ps.length := by omega
      have i1 : ¬ (ps.length : Int) < (ps.length : Int) := by omega
      have hin : Hid (∀ q ∈ ps, inrP q) := fun q hq => by obtain ⟨j, hj, rfl⟩ := List.mem_iff_getElem.1 hq; exact hall j hj hj
      clear hall
      go_wp2_with fail
      go_loopw [5] (fun i wr => ∃ k : Nat, k ≤ ps.length ∧ i = .int .i64 k ∧ (∀ j, j < k → ∀ m, m < ps.length → rowok ps j m) ∧ ∃ p, wr = gw w p)
        (fun i _ => (ps.length - intOf i).toNat)
      case atStart => exact ⟨0, by omega, rfl, by omega, ⟨_, rfl⟩⟩
      case round =>
        obtain ⟨k, hk, rfl, hall, p, rfl⟩ := hrel
        by_cases hlt : k < ps.length
        · have i0 : (0 : Int) ≤ (k : Int) := by omega
          have i2 : (k : Int) < (ps.length : Int) := by omega
          have hmod := Nat.mod_lt (k + 1) (show 0 < ps.length by omega)
          have hm : ((k : Int) + 1).tmod (ps.length : Int) = (((k + 1) % ps.length : Nat) : Int) := by
            rw [show (k : Int) + 1 = ((k + 1 : Nat) : Int) from by omega]; first | exact (Int.ofNat_tmod _ _).symm | exact (Int.natCast_tmod _ _).symm | (rw [Int.tmod_eq_emod_of_nonneg (by omega)]; exact (Int.natCast_emod _ _).symm)
          have hnz : ((ps.length : Int) == 0) = false := by rw [beq_eq_false_iff_ne]; omega
          have hrowd : Hid (∀ m, rowok ps k m ↔ (m = k ∨ m = (k + 1) % ps.length ∨ or3 (hp' ps k) (hp' ps (k + 1)) (hp' ps m) = 1)) := fun m => Iff.rfl
          rw [← hp_mod ps (k + 1)] at hrowd
          generalize (k + 1) % ps.length = nx at *
          have x0 : (0 : Int) ≤ (nx : Int) := by omega
          have x1 : (nx : Int) < (ps.length : Int) := by omega
          have hall2 : Hid (∀ j, j < k → ∀ m, m < ps.length → rowok ps j m) := hall
          clear hall
          go_wp2_with fail
          go_loopw [7] (fun m wx => ∃ m' : Nat, m' ≤ ps.length ∧ m = .int .i64 m' ∧ Hid (∀ j, j < m' → rowok ps k j) ∧ ∃ p, wx = gw w p)
            (fun m _ => (ps.length - intOf m).toNat)
          case atStart => exact ⟨0, by omega, rfl, fun j hj => absurd hj (by omega), ⟨_, rfl⟩⟩
          case round =>
            obtain ⟨m, hm', rfl, hrow, p, rfl⟩ := hrel
            by_cases hml : m < ps.length
            · have m0 : (0 : Int) ≤ (m : Int) := by omega
              have m1 : (m : Int) < (ps.length : Int) := by omega
              have hsucc : rowok ps k m → Hid (∀ j, j < m + 1 → rowok ps k j) := fun g j hj => by
                rcases (by omega : j < m ∨ j = m) with h1 | rfl
                · exact hrow.out j h1
                · exact g
              by_cases c1 : m = k
              · have hg := hsucc ((hrowd.out m).2 (.inl c1))
                have b1 : ((m : Int) != (k : Int)) = false := by simp [c1]
                clear hsucc hrow hall2 hcell hrowd hin c1
                go_wp2_with fail
                refine wp_region_gw (by kernel_rfl) (by kernel_rfl) ?_
                repeat (go_big_quiet_step (fail))
                refine wpQuiet_nil ?_
                intro w1 hw1
                obtain ⟨q, rfl⟩ := hw1
                go_wp2_with fail
                exact ⟨⟨m + 1, by omega, by go_num, hg, gw_gw _ _ _⟩, by (try go_num); simp [intOf]; (try omega)⟩
              · have b1 : ((m : Int) != (k : Int)) = true := by rw [bne_iff_ne]; omega
                by_cases c2 : m = nx
                · have hg := hsucc ((hrowd.out m).2 (.inr (.inl c2)))
                  have b2 : ((m : Int) != (nx : Int)) = false := by simp [c2]
                  clear hsucc hrow hall2 hcell hrowd hin c1 c2
                  go_wp2_with fail
                  refine wp_region_gw (by kernel_rfl) (by kernel_rfl) ?_
                  repeat (go_big_quiet_step (fail))
                  refine wpQuiet_nil ?_
                  intro w1 hw1
                  obtain ⟨q, rfl⟩ := hw1
                  go_wp2_with fail
                  exact ⟨⟨m + 1, by omega, by go_num, hg, gw_gw _ _ _⟩, by (try go_num); simp [intOf]; (try omega)⟩
                · have b2 : ((m : Int) != (nx : Int)) = true := by rw [bne_iff_ne]; omega
                  obtain ⟨d0, d1⟩ := hcell p m hml
                  obtain ⟨e0, e1⟩ := hcell p k hlt
                  obtain ⟨f0, f1⟩ := hcell p nx hmod
                  have ob := older_of_cell d0
                  have hro := hrowd.out m
                  rw [hp_get hlt, hp_get hmod, hp_get hml] at hro
                  have cO : ∀ w', Calls Tryz.prog 153 #[.agg #[.int .i64 ps[k].1, .int .i64 ps[k].2], .agg #[.int .i64 ps[nx].1, .int .i64 ps[nx].2], .agg #[.int .i64 ps[m].1, .int .i64 ps[m].2]] w' fun e w'' => e = .returned (.int .i64 (or3 ps[k] ps[nx] ps[m])) ∧ Below w'.heap.size w' w'' := fun w' => rorient_b _ _ _ _ _ _ w'
                  have hno : ¬ rowok ps k m → R = false := fun h => by
                    rw [Bool.eq_false_iff]; intro e; exact h ((hR1.out.1 e).2.2.2 k hlt m hml)
                  clear hrow hall2 hcell hrowd hin
                  generalize or3 ps[k] ps[nx] ps[m] = O at *
                  generalize ps[k].1 = xk at *
                  generalize ps[k].2 = yk at *
                  generalize ps[nx].1 = xn at *
                  generalize ps[nx].2 = yn at *
                  generalize ps[m].1 = xm at *
                  generalize ps[m].2 = ym at *
                  by_cases c3 : O = 1
                  · have hg := hsucc (hro.2 (.inr (.inr c3)))
                    have b3 : (O != 1) = false := by simp [c3]
                    clear hsucc hno hro c1 c2 c3
                    go_wp2_with fail
                    refine wp_region_gw (by kernel_rfl) (by kernel_rfl) ?_
                    repeat (go_big_quiet_step ((go_at_call 153; exact gw_call (cO _))))
                    refine wpQuiet_nil ?_
                    intro w1 hw1
                    obtain ⟨q, rfl⟩ := hw1
                    go_wp2_with fail
                    exact ⟨⟨m + 1, by omega, by go_num, hg, gw_gw _ _ _⟩, by (try go_num); simp [intOf]; (try omega)⟩
                  · obtain rfl := hno (fun h => by rcases hro.1 h with h | h | h; exact c1 h; exact c2 h; exact c3 h)
                    have b3 : (O != 1) = true := by rw [bne_iff_ne]; exact c3
                    clear hsucc hno hro c1 c2 c3
                    go_wp2_with fail
                    refine wp_region_gw (by kernel_rfl) (by kernel_rfl) ?_
                    repeat (go_big_quiet_step ((go_at_call 153; exact gw_call (cO _))))
                    refine wpQuiet_nil ?_
                    intro w1 hw1
                    obtain ⟨q, rfl⟩ := hw1
                    go_wp2_with fail
                    go_ret
                    exact ⟨rfl, bBel⟩
            · obtain rfl : m = ps.length := by omega
              have m1 : ¬ (ps.length : Int) < (ps.length : Int) := by omega
              have hg : ∀ j, j < k + 1 → ∀ m, m < ps.length → rowok ps j m := fun j hj a ha2 => by
                rcases (by omega : j < k ∨ j = k) with h1 | h1
                · exact hall2.out j h1 a ha2
                · rw [h1]; exact hrow.out a ha2
              clear hrow hall2 hcell hrowd hin
              go_wp2_with fail
              exact ⟨⟨k + 1, by omega, by go_num, hg, ⟨_, rfl⟩⟩, by (try go_num); simp [intOf]; (try omega)⟩
        · obtain rfl : k = ps.length := by omega
          have i2 : ¬ (ps.length : Int) < (ps.length : Int) := by omega
          obtain rfl : R = true := hR1.out.2 ⟨by omega, by omega, hin.out, hall⟩
          clear hall
          go_wp2_with fail
          go_ret
          exact ⟨rfl, bBel⟩

end Go.Proofs.YtdmcdicphohlfaaGreat

set_option linter.unusedVariables false
namespace Go.Proofs.YtdmcdicphohlfaaGreat
open Go.RowKit Fx

theorem pts_open {w : World} {A : Option Addr} {ps : List (Int × Int)} (ha : Pts w A ps) (h0 : 0 < ps.length) : ∃ b off, A = some ⟨b, off, none⟩ ∧ ∀ (p : Gw) (i : Nat) (h : i < ps.length), (gw w p).cell? ⟨b, off + i * 2, none⟩ = some (.int .i64 ps[i].1) ∧ (gw w p).cell? ⟨b, off + i * 2 + 1, none⟩ = some (.int .i64 ps[i].2) := by
  rcases ha with h | ⟨b, off, rfl, hc⟩
  · rw [h] at h0; simp at h0
  refine ⟨b, off, rfl, fun p i h => ?_⟩
  obtain ⟨d0, d1⟩ := hc i h
  have hb := World.block_lt_of_cell? w ⟨b, off + i * 2, none⟩ d0
  exact ⟨(cell_gw p hb).trans d0, (cell_gw (a := ⟨b, off + i * 2 + 1, none⟩) p hb).trans d1⟩
theorem gw_zero (w : World) : gw w ⟨w.drawn, #[]⟩ = w := by unfold gw; simp
theorem pts_open0 {w : World} {A : Option Addr} {ps : List (Int × Int)} (ha : Pts w A ps) (h0 : 0 < ps.length) : ∃ b off, A = some ⟨b, off, none⟩ ∧ ∀ (i : Nat) (h : i < ps.length), w.cell? ⟨b, off + i * 2, none⟩ = some (.int .i64 ps[i].1) ∧ w.cell? ⟨b, off + i * 2 + 1, none⟩ = some (.int .i64 ps[i].2) := by
  obtain ⟨b, off, rfl, hc⟩ := pts_open ha h0
  exact ⟨b, off, rfl, fun i h => by have := hc ⟨w.drawn, #[]⟩ i h; rw [gw_zero] at this; exact this⟩

set_option maxHeartbeats 4000000 in
theorem rcrs_b (A : Option Addr) (cap : Nat) (ps : List (Int × Int)) (i : Nat) (hi : i + 1 < ps.length) (hl : ps.length ≤ 8) (hin : ∀ p ∈ ps, inrP p) (w : World) (ha : Pts w A ps) : Calls Tryz.prog 187 #[.slice A ps.length cap, .int .i64 i] w fun e w' => e = .returned (.int .i64 (crs ps i)) ∧ Below w.heap.size w w' := by
  obtain ⟨b, off, rfl, hc⟩ := pts_open0 ha (by omega)
  obtain ⟨a0, a1⟩ := hc 0 (by omega)
  obtain ⟨b0, b1⟩ := hc i (by omega)
  obtain ⟨c0, c1⟩ := hc (i + 1) hi
  have ob := older_of_cell a0
  rw [Nat.zero_mul, Nat.add_zero] at a0 a1
  have ia := hin _ (List.getElem_mem (show 0 < ps.length by omega))
  have ib := hin _ (List.getElem_mem (show i < ps.length by omega))
  have ic := hin _ (List.getElem_mem hi)
  unfold crs
  rw [hp_get (show 0 < ps.length by omega), hp_get (show i < ps.length by omega), hp_get hi]
  unfold inrP at ia ib ic
  have m1 := mul_between (a := ps[i].1 - ps[0].1) (b := ps[i + 1].2 - ps[0].2) (A := 2097152) (B := 2097152) (by omega) (by omega) (by omega) (by omega)
  have m2 := mul_between (a := ps[i].2 - ps[0].2) (b := ps[i + 1].1 - ps[0].1) (A := 2097152) (B := 2097152) (by omega) (by omega) (by omega) (by omega)
  have i0 : (0 : Int) ≤ (i : Int) := by omega
  have i1 : (i : Int) < (ps.length : Int) := by omega
  have i2 : (i : Int) + 1 < (ps.length : Int) := by omega
  have i3 : (0 : Int) < (ps.length : Int) := by omega
  have i4 : (ps.length : Int) ≤ 8 := by omega
  obtain ⟨ia1, ia2, ia3, ia4⟩ := ia
  obtain ⟨ib1, ib2, ib3, ib4⟩ := ib
  obtain ⟨ic1, ic2, ic3, ic4⟩ := ic
  clear hc hin ha
  generalize ps[0].1 = x0 at *
  generalize ps[0].2 = y0 at *
  generalize ps[i].1 = x1 at *
  generalize ps[i].2 = y1 at *
  generalize ps[i + 1].1 = x2 at *
  generalize ps[i + 1].2 = y2 at *
  go_enter Tryz.func187, Tryz.ntmps187
  go_wp2_with (first | (go_at_call 159; refine Calls.mono (gw_at (rrd_b _ _ _)) ?_; rintro e w1 ⟨rfl, q, rfl⟩))
  repeat
    first
      | (apply wp_box1 22 63 21 5 #[.int .i64 0, .int .i64 0] 24 (by kernel_rfl) (by rfl) (by decide +kernel) (by intro o ho a w; simp at ho; subst ho; simp [go_sem, ptr])
         · intro p0
           simp only [heads, ghost, List.take_succ_cons, List.take_zero, List.map_cons, List.map_nil]
           repeat (go_big_quiet_step ((first | (go_at_call 159; exact gw_call (rrd_b _ _ _)))))
           exact wpQuiet_nil rfl
         · intro R bB p0 nB gB  kB hK
           simp only [List.drop_succ_cons, List.drop_zero, Act.put, ptr, List.setIfInBounds_toArray, List.set_cons_succ, List.set_cons_zero]
           have cB_0 : _ = some _ := blk_cell kB 0
           have cB_1 : _ = some _ := blk_cell kB 1
           have fB_0 := blk_free kB 0
           have fB_1 := blk_free kB 1
           have oB := blk_older kB
           go_wp2_with fail
           refine box_end1 gB hK ?_ ?_
           · exact bBel
           · exact (by repeat' (first | with_reducible assumption | with_reducible apply blk_gw | with_reducible apply blk_alloc | with_reducible apply blk_set | ((with_reducible apply blk_other); focus (first | omega | assumption))))
         intro bB p0 nB  kB
         have cB_0 : _ = some _ := blk_cell kB 0
         have cB_1 : _ = some _ := blk_cell kB 1
         have fB_0 := blk_free kB 0
         have fB_1 := blk_free kB 1
         have oB := blk_older kB)
      | (apply wp_box1 24 63 23 6 #[.int .i64 0, .int .i64 0] 24 (by kernel_rfl) (by rfl) (by decide +kernel) (by intro o ho a w; simp at ho; subst ho; simp [go_sem, ptr])
         · intro p0
           simp only [heads, ghost, List.take_succ_cons, List.take_zero, List.map_cons, List.map_nil]
           repeat (go_big_quiet_step ((first | (go_at_call 159; exact gw_call (rrd_b _ _ _)))))
           exact wpQuiet_nil rfl
         · intro R bB p0 nB gB  kB hK
           simp only [List.drop_succ_cons, List.drop_zero, Act.put, ptr, List.setIfInBounds_toArray, List.set_cons_succ, List.set_cons_zero]
           have cB_0 : _ = some _ := blk_cell kB 0
           have cB_1 : _ = some _ := blk_cell kB 1
           have fB_0 := blk_free kB 0
           have fB_1 := blk_free kB 1
           have oB := blk_older kB
           go_wp2_with fail
           refine box_end1 gB hK ?_ ?_
           · exact bBel
           · exact (by repeat' (first | with_reducible assumption | with_reducible apply blk_gw | with_reducible apply blk_alloc | with_reducible apply blk_set | ((with_reducible apply blk_other); focus (first | omega | assumption))))
         intro bB p0 nB  kB
         have cB_0 : _ = some _ := blk_cell kB 0
         have cB_1 : _ = some _ := blk_cell kB 1
         have fB_0 := blk_free kB 0
         have fB_1 := blk_free kB 1
         have oB := blk_older kB)
    go_wp2_with (first | (go_at_call 159; refine Calls.mono (gw_at (rrd_b _ _ _)) ?_; rintro e w1 ⟨rfl, q, rfl⟩))
  go_ret
  exact ⟨rfl, bBel⟩

end Go.Proofs.YtdmcdicphohlfaaGreat

set_option linter.unusedVariables false
namespace Go.Proofs.YtdmcdicphohlfaaGreat
open Go.RowKit Fx

set_option maxHeartbeats 4000000 in
theorem rarea_b (A : Option Addr) (cap : Nat) (ps : List (Int × Int)) (hl : ps.length ≤ 4611686018427387904) (w : World) (ha : Pts w A ps) : Calls Tryz.prog 133 #[.slice A ps.length cap] w fun e w' => e = .returned (.int .i64 (areaP ps)) ∧ Below w.heap.size w w' := by
  have cV := fun w' h => rconv_b A cap ps hl w' h
  unfold areaP
  cases hR : cvx ps
  focus
    rw [hR] at cV
    rw [if_neg (by simp)]
    clear hR
    go_enter Tryz.func133, Tryz.ntmps133
    go_wp2_with (go_at_call 131; refine Calls.mono (gw_at (cV _ (Pts.to ha bBel))) ?_; rintro e w1 ⟨rfl, q, rfl⟩)
    go_ret
    exact ⟨rfl, bBel⟩
  rw [hR] at cV
  rw [if_pos rfl]
  obtain ⟨n3, n8, hin, -⟩ := cvx_iff.1 hR
  have hin2 : Hid (∀ p ∈ ps, inrP p) := hin
  have n3' : (3 : Int) ≤ (ps.length : Int) := by omega
  have n8' : (ps.length : Int) ≤ 8 := by omega
  obtain ⟨S, hS0⟩ : ∃ S, Hid (crsS ps (ps.length - 2) = S) := ⟨_, rfl⟩
  rw [hS0.out]
  clear hR hin
  go_enter Tryz.func133, Tryz.ntmps133
  go_wp2_with (go_at_call 131; refine Calls.mono (gw_at (cV _ (Pts.to ha bBel))) ?_; rintro e w1 ⟨rfl, q, rfl⟩)
  clear cV
  go_loopw [3, 4] (fun s i wr => ∃ k : Nat, k + 2 ≤ ps.length ∧ s = .int .i64 (crsS ps k) ∧ i = .int .i64 ((k : Int) + 1) ∧ ∃ p, wr = gw w p)
    (fun _ i _ => (ps.length - intOf i).toNat)
  case atStart => exact ⟨0, by omega, rfl, rfl, ⟨_, rfl⟩⟩
  case round =>
    obtain ⟨k, hk, rfl, rfl, p, rfl⟩ := hrel
    have hs := crsS_in (ps := ps) (by omega) hin2.out k
    by_cases hlt : k + 2 < ps.length
    · have i1 : (k : Int) + 1 + 1 < (ps.length : Int) := by omega
      have hs2 := crs_in (ps := ps) (by omega) hin2.out (k + 1)
      have cC : ∀ w', Pts w' A ps → Calls Tryz.prog 187 #[.slice A ps.length cap, .int .i64 ((k : Int) + 1)] w' fun e w'' => e = .returned (.int .i64 (crs ps (k + 1))) ∧ Below w'.heap.size w' w'' := fun w' h => by
        have := rcrs_b A cap ps (k + 1) (by omega) n8 hin2.out w' h
        rw [show ((k + 1 : Nat) : Int) = (k : Int) + 1 from by omega] at this
        exact this
      have hS : Hid (crsS ps (k + 1) = crsS ps k + crs ps (k + 1)) := rfl
      have k8 : (k : Int) ≤ 8 := by omega
      generalize crs ps (k + 1) = c at *
      generalize crsS ps k = s at *
      go_wp2_with (go_at_call 187; refine Calls.mono (gw_at (cC _ (Pts.to ha bBel))) ?_; rintro e w1 ⟨rfl, q, rfl⟩)
      exact ⟨⟨k + 1, by omega, by rw [hS.out]; try go_num, by go_num, gw_gw _ _ _⟩, by (try go_num); simp [intOf]; (try omega)⟩
    · have i1 : ¬ (k : Int) + 1 + 1 < (ps.length : Int) := by omega
      have e : k = ps.length - 2 := by omega
      rw [e, hS0.out] at hs
      rw [e, hS0.out]
      clear e
      go_wp2_with (go_at_call 159; refine Calls.mono (gw_at (rrd_b _ _ _)) ?_; rintro e w1 ⟨rfl, q, rfl⟩)
      go_ret
      exact ⟨rfl, bBel⟩

end Go.Proofs.YtdmcdicphohlfaaGreat

set_option linter.unusedVariables false
namespace Go.Proofs.YtdmcdicphohlfaaGreat
open Go.RowKit Fx

theorem next_mod {k n : Nat} : ((k : Int) + 1).tmod (n : Int) = (((k + 1) % n : Nat) : Int) := by
  rw [show (k : Int) + 1 = ((k + 1 : Nat) : Int) from by omega]; first | exact (Int.ofNat_tmod _ _).symm | exact (Int.natCast_tmod _ _).symm | (rw [Int.tmod_eq_emod_of_nonneg (by omega)]; exact (Int.natCast_emod _ _).symm)

set_option maxHeartbeats 4000000 in
theorem rshort_b (A : Option Addr) (cap : Nat) (ps : List (Int × Int)) (hl : ps.length ≤ 4611686018427387904) (w : World) (ha : Pts w A ps) : Calls Tryz.prog 132 #[.slice A ps.length cap] w fun e w' => e = .returned (.int .i64 (shortP ps)) ∧ Below w.heap.size w w' := by
  have cV := fun w' h => rconv_b A cap ps hl w' h
  unfold shortP
  cases hR : cvx ps
  focus
    rw [hR] at cV
    rw [if_neg (by simp)]
    clear hR
    go_enter Tryz.func132, Tryz.ntmps132
    go_wp2_with (go_at_call 131; refine Calls.mono (gw_at (cV _ (Pts.to ha bBel))) ?_; rintro e w1 ⟨rfl, q, rfl⟩)
    go_ret
    exact ⟨rfl, bBel⟩
  rw [hR] at cV
  rw [if_pos rfl]
  obtain ⟨n3, n8, -, -⟩ := cvx_iff.1 hR
  obtain ⟨b, off, rfl, hcell⟩ := pts_open ha (by omega)
  have n3' : (3 : Int) ≤ (ps.length : Int) := by omega
  have n8' : (ps.length : Int) ≤ 8 := by omega
  obtain ⟨S, hS0⟩ : ∃ S, Hid (shr ps ps.length = S) := ⟨_, rfl⟩
  rw [hS0.out]
  clear hR
  go_enter Tryz.func132, Tryz.ntmps132
  go_wp2_with (go_at_call 131; refine Calls.mono (gw_at (cV _ (Pts.to ha bBel))) ?_; rintro e w1 ⟨rfl, q, rfl⟩)
  clear cV
  go_loopw [3, 4] (fun s i wr => ∃ k : Nat, k ≤ ps.length ∧ s = .int .i64 (shr ps k) ∧ i = .int .i64 k ∧ ∃ p, wr = gw w p)
    (fun _ i _ => (ps.length - intOf i).toNat)
  case atStart => exact ⟨0, by omega, rfl, rfl, ⟨_, rfl⟩⟩
  case round =>
    obtain ⟨k, hk, rfl, rfl, p, rfl⟩ := hrel
    by_cases hlt : k < ps.length
    · have i0 : (0 : Int) ≤ (k : Int) := by omega
      have i1 : (k : Int) < (ps.length : Int) := by omega
      have hmod := Nat.mod_lt (k + 1) (show 0 < ps.length by omega)
      have hm : ((k : Int) + 1).tmod (ps.length : Int) = (((k + 1) % ps.length : Nat) : Int) := next_mod
      have hnz : ((ps.length : Int) == 0) = false := by rw [beq_eq_false_iff_ne]; omega
      have hS1 : Hid (shr ps (k + 1) = if shr ps k < 0 ∨ edg ps k < shr ps k then edg ps k else shr ps k) := rfl
      have hE : edg ps k = vlen (sub (hp' ps (k + 1)).1 (hp' ps k).1) (sub (hp' ps (k + 1)).2 (hp' ps k).2) := rfl
      rw [← hp_mod ps (k + 1)] at hE
      generalize (k + 1) % ps.length = nx at *
      rw [hp_get hlt, hp_get hmod] at hE
      have x0 : (0 : Int) ≤ (nx : Int) := by omega
      have x1 : (nx : Int) < (ps.length : Int) := by omega
      obtain ⟨d0, d1⟩ := hcell p k hlt
      obtain ⟨f0, f1⟩ := hcell p nx hmod
      have ob := older_of_cell d0
      have cS : ∀ w', Calls Tryz.prog 79 #[.agg #[.int .i64 ps[nx].1, .int .i64 ps[nx].2], .agg #[.int .i64 ps[k].1, .int .i64 ps[k].2]] w' fun e w'' => e = .returned (.agg #[.int .i64 (sub ps[nx].1 ps[k].1), .int .i64 (sub ps[nx].2 ps[k].2)]) ∧ Below w'.heap.size w' w'' := fun w' => rvsub_b _ _ _ _ w'
      have cL : ∀ w', Calls Tryz.prog 130 #[.agg #[.int .i64 (sub ps[nx].1 ps[k].1), .int .i64 (sub ps[nx].2 ps[k].2)]] w' fun e w'' => e = .returned (.int .i64 (edg ps k)) ∧ Below w'.heap.size w' w'' := fun w' => by rw [hE]; exact rvlen_b _ _ w'
      clear hcell hE
      generalize edg ps k = E at *
      generalize sub ps[nx].1 ps[k].1 = u at *
      generalize sub ps[nx].2 ps[k].2 = v at *
      generalize ps[k].1 = xk at *
      generalize ps[k].2 = yk at *
      generalize ps[nx].1 = xn at *
      generalize ps[nx].2 = yn at *
      generalize shr ps k = s at *
      go_wp2_with fail
      refine wp_region_gw (by kernel_rfl) (by kernel_rfl) ?_
      repeat (go_big_quiet_step ((first | (go_at_call 79; exact gw_call (cS _)) | (go_at_call 130; exact gw_call (cL _)))))
      refine wpQuiet_nil ?_
      intro w1 hw1
      obtain ⟨q, rfl⟩ := hw1
      by_cases c1 : s < 0
      · have hv := hS1.out
        rw [if_pos (.inl c1)] at hv
        have hv' : Hid (shr ps (k + 1) = E) := hv
        clear hv hS1
        go_wp2_with fail
        exact ⟨⟨k + 1, by omega, by rw [hv'.out], by go_num, gw_gw _ _ _⟩, by (try go_num); simp [intOf]; (try omega)⟩
      · by_cases c2 : E < s
        · have hv := hS1.out
          rw [if_pos (.inr c2)] at hv
          have hv' : Hid (shr ps (k + 1) = E) := hv
          clear hv hS1
          go_wp2_with fail
          exact ⟨⟨k + 1, by omega, by rw [hv'.out], by go_num, gw_gw _ _ _⟩, by (try go_num); simp [intOf]; (try omega)⟩
        · have hv := hS1.out
          rw [if_neg (by omega)] at hv
          have hv' : Hid (shr ps (k + 1) = s) := hv
          clear hv hS1
          go_wp2_with fail
          exact ⟨⟨k + 1, by omega, by rw [hv'.out], by go_num, gw_gw _ _ _⟩, by (try go_num); simp [intOf]; (try omega)⟩
    · obtain rfl : k = ps.length := by omega
      have i1 : ¬ (ps.length : Int) < (ps.length : Int) := by omega
      rw [hS0.out]
      clear hcell
      go_wp2_with fail
      go_ret
      exact ⟨rfl, bBel⟩

end Go.Proofs.YtdmcdicphohlfaaGreat

set_option linter.unusedVariables false
namespace Go.Proofs.YtdmcdicphohlfaaGreat
open Go.RowKit Fx

theorem post_nmd {P : Program} {fn : Func} {R : Ending → World → Prop} {a : Act} {w : World} {x : Exit} (h : ∀ Z, Z = w → bodyPost P fn R x a Z) : bodyPost P fn R x a w := h w rfl
theorem rdiv_abs (n d : Int) : -n.natAbs ≤ rdiv n d ∧ rdiv n d ≤ n.natAbs := by
  unfold rdiv
  split
  · rename_i h
    exact rcore_bounds (by unfold rok at h; simp only [Bool.and_eq_true, decide_eq_true_iff] at h; omega)
  · omega

set_option maxRecDepth 100000 in
set_option maxHeartbeats 8000000 in
theorem rcen_b (A : Option Addr) (cap : Nat) (ps : List (Int × Int)) (hl : ps.length ≤ 4611686018427387904) (w : World) (ha : Pts w A ps) : Calls Tryz.prog 197 #[.slice A ps.length cap] w fun e w' => e = .returned (.agg #[.int .i64 (cenP ps).1, .int .i64 (cenP ps).2]) ∧ Below w.heap.size w w' := by
  have cV := fun w' h => rconv_b A cap ps hl w' h
  unfold cenP
  cases hR : cvx ps
  focus
    rw [hR] at cV
    rw [if_neg (by simp)]
    clear hR
    go_enter Tryz.func197, Tryz.ntmps197
    go_wp2_with (go_at_call 131; refine Calls.mono (gw_at (cV _ (Pts.to ha bBel))) ?_; rintro e w1 ⟨rfl, q, rfl⟩)
    exact bodyPost_ret (v := .agg #[.int .i64 0, .int .i64 0]) (by simp [results, Tryz.results197, go_sem]; try (first | with_reducible rfl | exact ⟨rfl, rfl⟩ | exact ⟨rfl, rfl, rfl⟩ | exact ⟨rfl, rfl, rfl, rfl⟩ | exact ⟨rfl, rfl, rfl, rfl, rfl⟩ | exact ⟨rfl, rfl, rfl, rfl, rfl, rfl⟩ | rfl)) rfl ⟨rfl, bBel⟩
  rw [hR] at cV
  rw [if_pos rfl]
  obtain ⟨n3, n8, hin, -⟩ := cvx_iff.1 hR
  have hin2 : Hid (∀ p ∈ ps, inrP p) := hin
  have n3' : (3 : Int) ≤ (ps.length : Int) := by omega
  have n8' : (ps.length : Int) ≤ 8 := by omega
  have n0 : (0 : Int) < (ps.length : Int) := by omega
  obtain ⟨U, V, hUV⟩ : ∃ U V, Hid ((if crsS ps (ps.length - 2) = 0 then hp' ps 0 else ((hp' ps 0).1 + rdiv (cenX ps (ps.length - 2)) (3 * crsS ps (ps.length - 2)), (hp' ps 0).2 + rdiv (cenY ps (ps.length - 2)) (3 * crsS ps (ps.length - 2)))) = (U, V)) := ⟨_, _, rfl⟩
  rw [hUV.out]
  dsimp only
  obtain ⟨b, off, rfl, hc0⟩ := pts_open0 ha (by omega)
  obtain ⟨a0, a1⟩ := hc0 0 (by omega)
  have ob := older_of_cell a0
  rw [Nat.zero_mul, Nat.add_zero] at a0 a1
  have ia := hin _ (List.getElem_mem (show 0 < ps.length by omega))
  unfold inrP at ia
  obtain ⟨ia1, ia2, ia3, ia4⟩ := ia
  obtain ⟨x0, hx0⟩ : ∃ x, Hid (ps[0].1 = x) := ⟨ps[0].1, rfl⟩
  obtain ⟨y0, hy0⟩ : ∃ x, Hid (ps[0].2 = x) := ⟨ps[0].2, rfl⟩
  rw [hx0.out] at a0 ia1 ia2
  rw [hy0.out] at a1 ia3 ia4
  clear hR hin hc0
  go_enter Tryz.func197, Tryz.ntmps197
  go_wp2_with (go_at_call 131; refine Calls.mono (gw_at (cV _ (Pts.to ha bBel))) ?_; rintro e w1 ⟨rfl, q, rfl⟩)
  refine wp_named ?_
  intro W hW
  have kR : blk W w.heap.size #[.int .i64 0, .int .i64 0] 24 := by rw [hW]; exact bBkn
  have kO : blk W (w.heap.size + 1 + q.os.size) #[.int .i64 x0, .int .i64 y0] 24 := by rw [hW]; exact bBkn
  have hbW : Below w.heap.size w W := by rw [hW]; exact bBel
  clear hW cV a0 a1 ob
  have hlO : w.heap.size < w.heap.size + 1 + q.os.size := by omega
  generalize w.heap.size + 1 + q.os.size = BO at *
  have hcell2 : ∀ (p : Gw) (i : Nat) (h : i < ps.length), (gw W p).cell? ⟨b, off + i * 2, none⟩ = some (.int .i64 ps[i].1) ∧ (gw W p).cell? ⟨b, off + i * 2 + 1, none⟩ = some (.int .i64 ps[i].2) := fun p i h => by
    obtain ⟨b', off', hE, hcell⟩ := pts_open (Pts.to ha hbW) (by omega)
    cases hE
    exact hcell p i h
  go_loopw [4, 5, 6, 7] (fun s x y i wr => ∃ j : Nat, 1 ≤ j ∧ j + 1 ≤ ps.length ∧ s = .int .i64 (crsS ps (j - 1)) ∧ x = .int .i64 (cenX ps (j - 1)) ∧ y = .int .i64 (cenY ps (j - 1)) ∧ i = .int .i64 (j : Int) ∧ ∃ p, wr = gw W p)
    (fun _ _ _ i _ => (ps.length - intOf i).toNat)
  case atStart => exact ⟨1, by omega, by omega, rfl, rfl, rfl, rfl, ⟨⟨W.drawn, #[]⟩, (gw_zero W).symm⟩⟩
  case round =>
    obtain ⟨j, hj1, hj, rfl, rfl, rfl, rfl, p, rfl⟩ := hrel
    have hszW := hbW.size
    have hs := crsS_in (ps := ps) (by omega) hin2.out (j - 1)
    obtain ⟨hcx, hcy⟩ := cen_in (ps := ps) (by omega) hin2.out (j - 1)
    have j8 : ((j - 1 : Nat) : Int) ≤ 8 := by omega
    have kR2 := blk_gw (p := p) kR
    have kO2 := blk_gw (p := p) kO
    have okR2 := blk_older kR2
    have ckR2_0 : _ = some _ := blk_cell kR2 0
    have ckR2_1 : _ = some _ := blk_cell kR2 1
    have fkR2_0 := blk_free kR2 0
    have fkR2_1 := blk_free kR2 1
    have okO2 := blk_older kO2
    have ckO2_0 : _ = some _ := blk_cell kO2 0
    have ckO2_1 : _ = some _ := blk_cell kO2 1
    have fkO2_0 := blk_free kO2 0
    have fkO2_1 := blk_free kO2 1
    by_cases hlt : j + 1 < ps.length
    · have i0 : (0 : Int) ≤ (j : Int) := by omega
      have i1 : (j : Int) + 1 < (ps.length : Int) := by omega
      have i2 : (j : Int) < (ps.length : Int) := by omega
      obtain ⟨d0, d1⟩ := hcell2 p j (by omega)
      obtain ⟨f0, f1⟩ := hcell2 p (j + 1) hlt
      have ob := older_of_cell d0
      have hk2 := crs_in (ps := ps) (by omega) hin2.out j
      have cC : ∀ w', Pts w' (some ⟨b, off, none⟩) ps → Calls Tryz.prog 187 #[.slice (some ⟨b, off, none⟩) ps.length cap, .int .i64 (j : Int)] w' fun e w'' => e = .returned (.int .i64 (crs ps j)) ∧ Below w'.heap.size w' w'' := fun w' h => rcrs_b _ cap ps j hlt n8 hin2.out w' h
      have ib := hin2.out _ (List.getElem_mem (show j < ps.length by omega))
      have ic := hin2.out _ (List.getElem_mem hlt)
      unfold inrP at ib ic
      obtain ⟨ib1, ib2, ib3, ib4⟩ := ib
      obtain ⟨ic1, ic2, ic3, ic4⟩ := ic
      have m1 := mul_between (a := ps[j].1 - x0 + ps[j + 1].1 - x0) (b := crs ps j) (A := 4194304) (B := 134217729) (by omega) (by omega) (by omega) (by omega)
      have m2 := mul_between (a := ps[j].2 - y0 + ps[j + 1].2 - y0) (b := crs ps j) (A := 4194304) (B := 134217729) (by omega) (by omega) (by omega) (by omega)
      have hS : Hid (crsS ps (j + 1 - 1) = crsS ps (j - 1) + crs ps j ∧ cenX ps (j + 1 - 1) = cenX ps (j - 1) + (ps[j].1 - x0 + ps[j + 1].1 - x0) * crs ps j ∧ cenY ps (j + 1 - 1) = cenY ps (j - 1) + (ps[j].2 - y0 + ps[j + 1].2 - y0) * crs ps j) := by
        show _ ∧ _ ∧ _
        rw [← hx0.out, ← hy0.out, ← hp_get (show j < ps.length by omega), ← hp_get hlt, ← hp_get (show 0 < ps.length by omega)]
        obtain ⟨m, rfl⟩ : ∃ m, j = m + 1 := ⟨j - 1, by omega⟩
        exact ⟨rfl, rfl, rfl⟩
      have i3 : (0 : Int) ≤ (j : Int) + 1 := by omega
      have i4 : IntKind.i64.wrap ((j : Int) + 1) = (j : Int) + 1 := by rw [IntKind.wrap_i64]; omega
      have hszP : W.heap.size ≤ (gw W p).heap.size := by simp
      have hcellB : ∀ w', Below W.heap.size W w' → Below W.heap.size W w' ∧ w'.cell? ⟨b, off + j * 2, none⟩ = some (.int .i64 ps[j].1) ∧ w'.cell? ⟨b, off + j * 2 + 1, none⟩ = some (.int .i64 ps[j].2) ∧ w'.cell? ⟨b, off + (j + 1) * 2, none⟩ = some (.int .i64 ps[j + 1].1) ∧ w'.cell? ⟨b, off + (j + 1) * 2 + 1, none⟩ = some (.int .i64 ps[j + 1].2) := fun w' h => by
        obtain ⟨r, rfl⟩ := gw_of_below h
        exact ⟨h, (hcell2 r j (by omega)).1, (hcell2 r j (by omega)).2, (hcell2 r (j + 1) hlt).1, (hcell2 r (j + 1) hlt).2⟩
      have hPts : ∀ w', Below W.heap.size W w' → Pts w' (some ⟨b, off, none⟩) ps := fun w' h => Pts.to ha (Below.trans hbW (h.mono hbW.size))
      have hb0 : Below W.heap.size W (gw W p) := below_gw W p
      clear hcell2
      generalize crs ps j = c at *
      generalize crsS ps (j - 1) = s at *
      generalize cenX ps (j - 1) = sx at *
      generalize cenY ps (j - 1) = sy at *
      generalize ps[j].1 = xj at *
      generalize ps[j].2 = yj at *
      generalize ps[j + 1].1 = xn at *
      generalize ps[j + 1].2 = yn at *
      go_upto_region 8 with fail
      generalize gw W p = V at *
      go_cut [8, 9, 10] (fun e f k wx => ∃ E F : Nat, e = .pointer (some ⟨E, 0, none⟩) ∧ f = .pointer (some ⟨F, 0, none⟩) ∧ k = .int .i64 c ∧ blk wx E #[.int .i64 xj, .int .i64 yj] 24 ∧ blk wx F #[.int .i64 xn, .int .i64 yn] 24 ∧ Below W.heap.size W wx)
      case first =>
        go_region_held3 (fun w' => Below W.heap.size W w' ∧ w'.cell? ⟨b, off + j * 2, none⟩ = some (.int .i64 xj) ∧ w'.cell? ⟨b, off + j * 2 + 1, none⟩ = some (.int .i64 yj) ∧ w'.cell? ⟨b, off + (j + 1) * 2, none⟩ = some (.int .i64 xn) ∧ w'.cell? ⟨b, off + (j + 1) * 2 + 1, none⟩ = some (.int .i64 yn)) (first | (refine hcellB _ ?_; exact bBel))
          (first | (go_at_call 187; refine Calls.mono (gw_at (cC _ (hPts _ bBel))) ?_; rintro e w1 ⟨rfl, q, rfl⟩))
        all_goals
          go_wp2_with fail
        all_goals
          go_meet
          exact ⟨_, _, rfl, rfl, rfl, bBkn, bBkn, bBel⟩
      case rest =>
      obtain ⟨E, F, rfl, rfl, rfl, kE, kF, hbX⟩ := hcut
      generalize wc = X at *
      obtain ⟨r, rfl⟩ := gw_of_below hbX
      clear hcellB hPts hb0 d0 d1 f0 f1 ob ckR2_0 ckR2_1 fkR2_0 fkR2_1 okR2 ckO2_0 ckO2_1 fkO2_0 fkO2_1 okO2 kO2 kR2 hszP hbX
      have kO2 := blk_gw (p := r) kO
      have okO2 := blk_older kO2
      have ckO2_0 : _ = some _ := blk_cell kO2 0
      have ckO2_1 : _ = some _ := blk_cell kO2 1
      have fkO2_0 := blk_free kO2 0
      have fkO2_1 := blk_free kO2 1
      have okE := blk_older kE
      have ckE_0 : _ = some _ := blk_cell kE 0
      have ckE_1 : _ = some _ := blk_cell kE 1
      have fkE_0 := blk_free kE 0
      have fkE_1 := blk_free kE 1
      have okF := blk_older kF
      have ckF_0 : _ = some _ := blk_cell kF 0
      have ckF_1 : _ = some _ := blk_cell kF 1
      have fkF_0 := blk_free kF 0
      have fkF_1 := blk_free kF 1
      go_wp2_with fail
      exact ⟨⟨j + 1, by omega, by omega, by rw [hS.out.1]; try go_num, by rw [hS.out.2.1]; try go_num, by rw [hS.out.2.2]; try go_num, by go_num, ⟨r, rfl⟩⟩, by (try go_num); simp [intOf]; (try omega)⟩
    · have i1 : ¬ (j : Int) + 1 < (ps.length : Int) := by omega
      have e : j - 1 = ps.length - 2 := by omega
      rw [e] at hs hcx hcy
      rw [e]
      rw [hp_get (show 0 < ps.length by omega), hx0.out, hy0.out] at hUV
      have hr1 := rdiv_abs (cenX ps (ps.length - 2)) (3 * crsS ps (ps.length - 2))
      have hr2 := rdiv_abs (cenY ps (ps.length - 2)) (3 * crsS ps (ps.length - 2))
      have n5 : ((ps.length - 2 : Nat) : Int) ≤ 6 := by omega
      clear hcell2 e
      generalize crsS ps (ps.length - 2) = S at *
      generalize cenX ps (ps.length - 2) = sx at *
      generalize cenY ps (ps.length - 2) = sy at *
      generalize hn2 : ((ps.length - 2 : Nat) : Int) = n2 at *
      clear hn2
      have hs1 : -900000000 ≤ S ∧ S ≤ 900000000 := by omega
      have hx1 : -4000000000000000 ≤ sx ∧ sx ≤ 4000000000000000 := by omega
      have hy1 : -4000000000000000 ≤ sy ∧ sy ≤ 4000000000000000 := by omega
      have hw3 : IntKind.i64.wrap (3 * S) = 3 * S := by rw [IntKind.wrap_i64]; omega
      have hx2 : -4000000000000000 ≤ rdiv sx (3 * S) ∧ rdiv sx (3 * S) ≤ 4000000000000000 := by omega
      have hy2 : -4000000000000000 ≤ rdiv sy (3 * S) ∧ rdiv sy (3 * S) ≤ 4000000000000000 := by omega
      clear hs hcx hcy hr1 hr2
      by_cases c : S = 0
      · have hv := hUV.out
        rw [if_pos c] at hv
        have hv1 : ps[0].1 = U := congrArg Prod.fst hv
        have hv2 : ps[0].2 = V := congrArg Prod.snd hv
        rw [hx0.out] at hv1
        rw [hy0.out] at hv2
        subst hv1 hv2
        have b1 : (S == 0) = true := by rw [beq_iff_eq]; exact c
        clear hv hUV c
        go_wp2_with fail
        refine post_nmd ?_
        intro Z hZ
        have kZ : blk Z w.heap.size #[.int .i64 x0, .int .i64 y0] 24 := by rw [hZ]; exact (by apply blk_of; (repeat (first | with_reducible exact kR2 | with_reducible apply blk_drew | with_reducible apply blk_gw | with_reducible apply blk_alloc | with_reducible apply blk_set | ((with_reducible apply blk_other); focus omega))); (first | rfl | simp))
        have hbZ : Below w.heap.size w Z := by rw [hZ]; exact Below.trans hbW bBel
        clear hZ
        have okZ := blk_older kZ
        have ckZ_0 : _ = some _ := blk_cell kZ 0
        have ckZ_1 : _ = some _ := blk_cell kZ 1
        have fkZ_0 := blk_free kZ 0
        have fkZ_1 := blk_free kZ 1
        exact bodyPost_ret (v := .agg #[.int .i64 x0, .int .i64 y0]) (by simp [results, Tryz.results197, go_sem, ckZ_0, ckZ_1]) rfl ⟨rfl, hbZ⟩
      · have hv := hUV.out
        rw [if_neg c] at hv
        have hv1 : x0 + rdiv sx (3 * S) = U := congrArg Prod.fst hv
        have hv2 : y0 + rdiv sy (3 * S) = V := congrArg Prod.snd hv
        have b1 : (S == 0) = false := by rw [beq_eq_false_iff_ne]; exact c
        clear hv hUV c
        obtain ⟨r1, hr1⟩ : ∃ r1, Hid (rdiv sx (3 * S) = r1) := ⟨rdiv sx (3 * S), rfl⟩
        obtain ⟨r2, hr2⟩ : ∃ r2, Hid (rdiv sy (3 * S) = r2) := ⟨rdiv sy (3 * S), rfl⟩
        have c1 : ∀ w', Calls Tryz.prog 159 #[.int .i64 sx, .int .i64 (3 * S)] w' fun e w'' => e = .returned (.int .i64 r1) ∧ Below w'.heap.size w' w'' := fun w' => by rw [← hr1.out]; exact rrd_b _ _ _
        have c2 : ∀ w', Calls Tryz.prog 159 #[.int .i64 sy, .int .i64 (3 * S)] w' fun e w'' => e = .returned (.int .i64 r2) ∧ Below w'.heap.size w' w'' := fun w' => by rw [← hr2.out]; exact rrd_b _ _ _
        rw [hr1.out] at hx2 hv1
        rw [hr2.out] at hy2 hv2
        subst hv1 hv2
        have hw4 : IntKind.i64.wrap (x0 + r1) = x0 + r1 := by rw [IntKind.wrap_i64]; omega
        have hw5 : IntKind.i64.wrap (y0 + r2) = y0 + r2 := by rw [IntKind.wrap_i64]; omega
        go_wp2_with fail
        refine wp_region_gw_tail 15 (by kernel_rfl) (by kernel_rfl) ?_
        simp only [List.take_succ_cons, List.take_zero, List.drop_succ_cons, List.drop_zero]
        repeat (go_big_quiet_step ((first | (go_at_call 159; with_reducible exact gw_call (c1 _)) | (go_at_call 159; with_reducible exact gw_call (c2 _)))))
        refine wpQuiet_nil ?_
        intro w1 hw1
        obtain ⟨q, rfl⟩ := hw1
        go_wp2_with fail
        refine post_nmd ?_
        intro Z hZ
        have kZ : blk Z w.heap.size #[.int .i64 (x0 + r1), .int .i64 (y0 + r2)] 24 := by rw [hZ]; exact (by apply blk_of; (repeat (first | with_reducible exact kR2 | with_reducible apply blk_drew | with_reducible apply blk_gw | with_reducible apply blk_alloc | with_reducible apply blk_set | ((with_reducible apply blk_other); focus omega))); (first | rfl | simp))
        have hbZ : Below w.heap.size w Z := by rw [hZ]; exact Below.trans hbW bBel
        clear hZ
        have okZ := blk_older kZ
        have ckZ_0 : _ = some _ := blk_cell kZ 0
        have ckZ_1 : _ = some _ := blk_cell kZ 1
        have fkZ_0 := blk_free kZ 0
        have fkZ_1 := blk_free kZ 1
        exact bodyPost_ret (v := .agg #[.int .i64 (x0 + r1), .int .i64 (y0 + r2)]) (by simp [results, Tryz.results197, go_sem, ckZ_0, ckZ_1]) rfl ⟨rfl, hbZ⟩

end Go.Proofs.YtdmcdicphohlfaaGreat

set_option linter.unusedVariables false
namespace Go.Proofs.YtdmcdicphohlfaaGreat
open Go.RowKit Fx

end Go.Proofs.YtdmcdicphohlfaaGreat
