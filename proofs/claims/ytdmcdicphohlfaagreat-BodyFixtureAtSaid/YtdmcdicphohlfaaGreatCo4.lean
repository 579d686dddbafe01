/- Contracts of package aabb and of its reference: each returns what the Lean functions of the same meaning give, and nothing that existed has changed. No conditions.
Contracts of package aabb: each returns what the Lean functions of the same meaning give, and nothing that existed has changed. No conditions.
Contracts of package aabb, those with loops: each returns what the Lean functions of the same meaning give, and nothing that existed has changed. No conditions but the slices' own. -/
import Derived.Test.YtdmcdicphohlfaaGreatCo2
import Derived.Test.YtdmcdicphohlfaaGreatKi1
import Derived.Test.YtdmcdicphohlfaaGreatKi2
import Derived.Test.YtdmcdicphohlfaaGreatMa1
import Derived.Outline
import Derived.Test.YtdmcdicphohlfaaGreatMa2

set_option linter.unusedVariables false
namespace Go.Proofs.YtdmcdicphohlfaaGreat
open Go.RowKit Fx

theorem rxsat_b (x y : Int) (w : World) : Calls Tryz.prog 188 #[.agg #[.int .i64 x, .int .i64 y]] w fun e w' => e = .returned (.agg #[.int .i64 (sat x), .int .i64 (sat y)]) ∧ Below w.heap.size w w' := by
  go_enter Tryz.func188, Tryz.ntmps188
  go_wp2_with (first | (go_at_call 158; refine Calls.mono (gw_at (rsat_b _ _)) ?_; rintro e w1 ⟨rfl, q, rfl⟩))
  repeat
    refine wp_region_gw_tail 7 (by kernel_rfl) (by kernel_rfl) ?_
    simp only [List.take_succ_cons, List.take_zero, List.drop_succ_cons, List.drop_zero]
    repeat (go_big_quiet_step ((first | (go_at_call 158; exact gw_call (rsat_b _ _)))))
    refine wpQuiet_nil ?_
    intro w1 hw1
    obtain ⟨q, rfl⟩ := hw1
    go_wp2_with (first | (go_at_call 158; refine Calls.mono (gw_at (rsat_b _ _)) ?_; rintro e w1 ⟨rfl, q, rfl⟩))
  exact bodyPost_ret (v := .agg #[.int .i64 (sat x), .int .i64 (sat y)]) (by simp [results, Tryz.results188, go_sem]; try (first | with_reducible rfl | exact ⟨rfl, rfl⟩ | exact ⟨rfl, rfl, rfl⟩ | exact ⟨rfl, rfl, rfl, rfl⟩ | exact ⟨rfl, rfl, rfl, rfl, rfl⟩ | exact ⟨rfl, rfl, rfl, rfl, rfl, rfl⟩ | rfl)) rfl ⟨rfl, bBel⟩

theorem rxval_b (x0 y0 x1 y1 : Int) (w : World) : Calls Tryz.prog 138 #[.agg #[.int .i64 x0, .int .i64 y0, .int .i64 x1, .int .i64 y1]] w fun e w' => e = .returned (.bool (val4 x0 y0 x1 y1)) ∧ Below w.heap.size w w' := by
  unfold val4
  have h := Bx.val_cases ⟨x0, y0, x1, y1⟩
  dsimp only at h
  rcases h with ⟨e, h1⟩ | ⟨e, h1, h2⟩ | ⟨e, h1, h2, h3⟩ | ⟨e, h1, h2, h3, h4⟩ | ⟨e, h1, h2, h3, h4, h5⟩ | ⟨e, h1, h2, h3, h4, h5, h6⟩ | ⟨e, h1, h2, h3, h4, h5, h6⟩
  all_goals
    rw [e]
    clear e
    go_enter Tryz.func138, Tryz.ntmps138
    go_wp2_with (first | (go_at_call 188; refine Calls.mono (gw_at (rxsat_b _ _ _)) ?_; rintro e w1 ⟨rfl, q, rfl⟩))
    repeat
      refine wp_region_gw (by kernel_rfl) (by kernel_rfl) ?_
      repeat (go_big_quiet_step ((first | (go_at_call 188; exact gw_call (rxsat_b _ _ _)))))
      refine wpQuiet_nil ?_
      intro w1 hw1
      obtain ⟨q, rfl⟩ := hw1
      go_wp2_with (first | (go_at_call 188; refine Calls.mono (gw_at (rxsat_b _ _ _)) ?_; rintro e w1 ⟨rfl, q, rfl⟩))
    go_ret
    exact ⟨rfl, bBel⟩

theorem rfp0_b (A : Option Addr) (cap : Nat) (w : World) : Calls Tryz.prog 139 #[.slice A 0 cap] w fun e w' => e = .returned (.tuple #[.agg #[.int .i64 0, .int .i64 0, .int .i64 0, .int .i64 0], .bool false]) ∧ Below w.heap.size w w' := by
  go_enter Tryz.func139, Tryz.ntmps139
  go_wp2_with (first | (go_at_call 188; refine Calls.mono (gw_at (rxsat_b _ _ _)) ?_; rintro e w1 ⟨rfl, q, rfl⟩))
  exact bodyPost_ret (v := .tuple #[.agg #[.int .i64 0, .int .i64 0, .int .i64 0, .int .i64 0], .bool false]) (by simp [results, Tryz.results139, go_sem]) rfl ⟨rfl, bBel⟩

theorem rfp1_b (b off cap : Nat) (ps : List (Int × Int)) (w : World) (hn : 0 < ps.length) (hl : ps.length ≤ 4611686018427387904) (hc : ∀ i (h : i < ps.length), w.cell? ⟨b, off + i * 2, none⟩ = some (.int .i64 ps[i].1) ∧ w.cell? ⟨b, off + i * 2 + 1, none⟩ = some (.int .i64 ps[i].2)) : Calls Tryz.prog 139 #[.slice (some ⟨b, off, none⟩) ps.length cap] w fun e w' => e = .returned (.tuple #[.agg #[.int .i64 (Bx.pts ps).x0, .int .i64 (Bx.pts ps).y0, .int .i64 (Bx.pts ps).x1, .int .i64 (Bx.pts ps).y1], .bool true]) ∧ Below w.heap.size w w' := by
  obtain ⟨c0, c1⟩ := hc 0 hn
  have ob := older_of_cell c0
  have hn' : (0 : Int) < (ps.length : Int) := by omega
  simp only [Nat.zero_mul, Nat.add_zero] at c0 c1
  go_enter Tryz.func139, Tryz.ntmps139
  go_wp2_with (first | (go_at_call 188; refine Calls.mono (gw_at (rxsat_b _ _ _)) ?_; rintro e w1 ⟨rfl, q, rfl⟩))
  have e1 : Bx.pts (ps.take 1) = Bx.one ps[0] := Bx.pts_one hn
  have g5 : w.heap.size < w.heap.size + 1 + q.os.size + 1 := by omega
  generalize hB5 : w.heap.size + 1 + q.os.size + 1 = B5 at *
  go_loopw [6] (fun i wr => ∃ k : Nat, 1 ≤ k ∧ k ≤ ps.length ∧ i = .int .i64 k ∧ blk wr B5 #[.int .i64 (Bx.pts (ps.take k)).x0, .int .i64 (Bx.pts (ps.take k)).y0, .int .i64 (Bx.pts (ps.take k)).x1, .int .i64 (Bx.pts (ps.take k)).y1] 45 ∧
      blk wr w.heap.size #[.int .i64 0, .int .i64 0, .int .i64 0, .int .i64 0] 45 ∧ Below w.heap.size w wr)
    (fun i _ => (ps.length - intOf i).toNat)
  case atStart =>
    refine ⟨1, by omega, by omega, rfl, ?_, ?_, bBel⟩
    · rw [e1]; exact blk_at (by simp; omega)
    · exact blk_alloc (blk_alloc (blk_gw (blk_new _ _ _)))
  case round =>
    obtain ⟨k, k1, k2, rfl, h5, h2, hbw⟩ := hrel
    have oh5 := blk_older h5
    have ch5_0 : _ = some _ := blk_cell h5 0
    have ch5_1 : _ = some _ := blk_cell h5 1
    have ch5_2 : _ = some _ := blk_cell h5 2
    have ch5_3 : _ = some _ := blk_cell h5 3
    have fh5_0 := blk_free h5 0
    have fh5_1 := blk_free h5 1
    have fh5_2 := blk_free h5 2
    have fh5_3 := blk_free h5 3
    have oh2 := blk_older h2
    have ch2_0 : _ = some _ := blk_cell h2 0
    have ch2_1 : _ = some _ := blk_cell h2 1
    have ch2_2 : _ = some _ := blk_cell h2 2
    have ch2_3 : _ = some _ := blk_cell h2 3
    have fh2_0 := blk_free h2 0
    have fh2_1 := blk_free h2 1
    have fh2_2 := blk_free h2 2
    have fh2_3 := blk_free h2 3
    have hsz := hbw.size
    by_cases hlt : k < ps.length
    · obtain ⟨d0, d1⟩ := hc k hlt
      have hob := World.block_lt_of_cell? w ⟨b, off + k * 2, none⟩ d0
      have d0' : wr.cell? ⟨b, off + k * 2, none⟩ = some (.int .i64 ps[k].1) := (hbw.cell (p := ⟨b, off + k * 2, none⟩) hob).trans d0
      have d1' : wr.cell? ⟨b, off + k * 2 + 1, none⟩ = some (.int .i64 ps[k].2) := (hbw.cell (p := ⟨b, off + k * 2 + 1, none⟩) hob).trans d1
      have odb := older_of_cell d0'
      have i0 : (0 : Int) ≤ (k : Int) := by omega
      have i1 : (k : Int) < (ps.length : Int) := by omega
      clear c0 c1 d0 d1
      go_wp2_with (first | (go_at_call 188; refine Calls.mono (gw_at (rxsat_b _ _ _)) ?_; rintro e w1 ⟨rfl, q, rfl⟩))
      refine ⟨⟨k + 1, by omega, by omega, by go_num, ?_, ?_, bBel⟩, by (try go_num); simp [intOf]; (try omega)⟩
      · rw [Bx.pts_succ k1 hlt]; exact (by apply blk_of; (repeat (first | with_reducible exact h5 | with_reducible apply blk_drew | with_reducible apply blk_gw | with_reducible apply blk_alloc | with_reducible apply blk_set | ((with_reducible apply blk_other); focus omega))); (first | rfl | simp))
      · exact (by apply blk_of; (repeat (first | with_reducible exact h2 | with_reducible apply blk_drew | with_reducible apply blk_gw | with_reducible apply blk_alloc | with_reducible apply blk_set | ((with_reducible apply blk_other); focus omega))); (first | rfl | simp))
    · have ek : k = ps.length := by omega
      have i1 : ¬ (k : Int) < (ps.length : Int) := by omega
      have et : ps.take k = ps := by rw [ek]; exact List.take_length
      rw [et] at *
      clear c0 c1
      go_wp2_with (first | (go_at_call 188; refine Calls.mono (gw_at (rxsat_b _ _ _)) ?_; rintro e w1 ⟨rfl, q, rfl⟩))
      exact bodyPost_ret (v := .tuple #[.agg #[.int .i64 (Bx.pts ps).x0, .int .i64 (Bx.pts ps).y0, .int .i64 (Bx.pts ps).x1, .int .i64 (Bx.pts ps).y1], .bool true]) (by simp [results, Tryz.results139, go_sem, ch2_0, ch2_1, ch2_2, ch2_3]) rfl ⟨rfl, bBel⟩

theorem rfp2_b (ax ay bx b_y : Int) (b cap : Nat) (t : TypeId) (w : World) (h : blk w b #[.int .i64 ax, .int .i64 ay, .int .i64 bx, .int .i64 b_y] t) : Calls Tryz.prog 139 #[.slice (some ⟨b, 0, none⟩) 2 cap] w fun e w' => e = .returned (.tuple #[.agg #[.int .i64 (min (sat ax) (sat bx)), .int .i64 (min (sat ay) (sat b_y)), .int .i64 (max (sat ax) (sat bx)), .int .i64 (max (sat ay) (sat b_y))], .bool true]) ∧ Below w.heap.size w w' := by
  have k := rfp1_b b 0 cap [(ax, ay), (bx, b_y)] w (by simp) (by simp) (fun i hi => by
    match i, hi with
    | 0, _ => exact ⟨blk_cell h 0, blk_cell h 1⟩
    | 1, _ => exact ⟨blk_cell h 2, blk_cell h 3⟩
    | n + 2, h => simp at h; omega)
  simp only [Bx.pts, List.foldl, Bx.one, Bx.step] at k
  exact k

theorem rfp4_b (ax ay bx b_y cx cy dx dy : Int) (b cap : Nat) (t : TypeId) (w : World) (h : blk w b #[.int .i64 ax, .int .i64 ay, .int .i64 bx, .int .i64 b_y, .int .i64 cx, .int .i64 cy, .int .i64 dx, .int .i64 dy] t) : Calls Tryz.prog 139 #[.slice (some ⟨b, 0, none⟩) 4 cap] w fun e w' => e = .returned (.tuple #[.agg #[.int .i64 (min (min (min (sat ax) (sat bx)) (sat cx)) (sat dx)), .int .i64 (min (min (min (sat ay) (sat b_y)) (sat cy)) (sat dy)), .int .i64 (max (max (max (sat ax) (sat bx)) (sat cx)) (sat dx)), .int .i64 (max (max (max (sat ay) (sat b_y)) (sat cy)) (sat dy))], .bool true]) ∧ Below w.heap.size w w' := by
  have k := rfp1_b b 0 cap [(ax, ay), (bx, b_y), (cx, cy), (dx, dy)] w (by simp) (by simp) (fun i hi => by
    match i, hi with
    | 0, _ => exact ⟨blk_cell h 0, blk_cell h 1⟩
    | 1, _ => exact ⟨blk_cell h 2, blk_cell h 3⟩
    | 2, _ => exact ⟨blk_cell h 4, blk_cell h 5⟩
    | 3, _ => exact ⟨blk_cell h 6, blk_cell h 7⟩
    | n + 4, h => simp at h; omega)
  simp only [Bx.pts, List.foldl, Bx.one, Bx.step] at k
  exact k

set_option maxHeartbeats 800000 in
theorem rxuni_b (ax0 ay0 ax1 ay1 bx0 by0 bx1 by1 : Int) (w : World) : Calls Tryz.prog 67 #[.agg #[.int .i64 ax0, .int .i64 ay0, .int .i64 ax1, .int .i64 ay1], .agg #[.int .i64 bx0, .int .i64 by0, .int .i64 bx1, .int .i64 by1]] w fun e w' => e = .returned (.agg #[.int .i64 (Bx.uni ⟨ax0, ay0, ax1, ay1⟩ ⟨bx0, by0, bx1, by1⟩).x0, .int .i64 (Bx.uni ⟨ax0, ay0, ax1, ay1⟩ ⟨bx0, by0, bx1, by1⟩).y0, .int .i64 (Bx.uni ⟨ax0, ay0, ax1, ay1⟩ ⟨bx0, by0, bx1, by1⟩).x1, .int .i64 (Bx.uni ⟨ax0, ay0, ax1, ay1⟩ ⟨bx0, by0, bx1, by1⟩).y1]) ∧ Below w.heap.size w w' := by
  cases h1 : val4 ax0 ay0 ax1 ay1 <;> cases h2 : val4 bx0 by0 bx1 by1
  focus
    rw [show Bx.uni ⟨ax0, ay0, ax1, ay1⟩ ⟨bx0, by0, bx1, by1⟩ = Bx.zero from by simp [Bx.uni, val4_eq, h1, h2]]
    go_enter Tryz.func67, Tryz.ntmps67
    go_wp2_with (first | (go_at_call 138; (first | (refine Calls.mono (gw_at (boolIs (rxval_b _ _ _ _ _) (b := true) (by assumption))) ?_; rintro e w1 ⟨rfl, q, rfl⟩) | (refine Calls.mono (gw_at (boolIs (rxval_b _ _ _ _ _) (b := false) (by assumption))) ?_; rintro e w1 ⟨rfl, q, rfl⟩) | (refine Calls.mono (gw_at (rxval_b _ _ _ _ _)) ?_; rintro e w1 ⟨rfl, q, rfl⟩))) | (go_at_call 139; (with_reducible show Calls _ _ (#[Value.slice _ 2 _]) _ _); refine Calls.mono (gw_at (rfp2_b _ _ _ _ _ _ _ _ (by first | ((with_reducible refine blk_at ?_); simp; done) | ((with_reducible refine blk_gw (blk_at ?_)); simp; done) | ((with_reducible refine blk_alloc (blk_at ?_)); simp; done) | ((with_reducible refine blk_gw (blk_alloc (blk_at ?_))); simp; done) | with_reducible assumption))) ?_; rintro e w1 ⟨rfl, q, rfl⟩) | (go_at_call 139; (with_reducible show Calls _ _ (#[Value.slice _ 4 _]) _ _); refine Calls.mono (gw_at (rfp4_b _ _ _ _ _ _ _ _ _ _ _ _ (by first | ((with_reducible refine blk_at ?_); simp; done) | ((with_reducible refine blk_gw (blk_at ?_)); simp; done) | ((with_reducible refine blk_alloc (blk_at ?_)); simp; done) | ((with_reducible refine blk_gw (blk_alloc (blk_at ?_))); simp; done) | with_reducible assumption))) ?_; rintro e w1 ⟨rfl, q, rfl⟩) | (go_at_call 139; (with_reducible show Calls _ _ (#[Value.slice _ (List.length _) _]) _ _); refine Calls.mono (gw_at (rfp_b _ _ _ _ (Pts.to (by with_reducible assumption) bBel) (by with_reducible assumption))) ?_; rintro e w1 ⟨rfl, q, rfl⟩))
    exact bodyPost_ret (v := .agg #[.int .i64 0, .int .i64 0, .int .i64 0, .int .i64 0]) (by simp [results, Tryz.results67, go_sem]; try (first | with_reducible rfl | exact ⟨rfl, rfl⟩ | exact ⟨rfl, rfl, rfl⟩ | exact ⟨rfl, rfl, rfl, rfl⟩ | exact ⟨rfl, rfl, rfl, rfl, rfl⟩ | exact ⟨rfl, rfl, rfl, rfl, rfl, rfl⟩ | rfl)) rfl ⟨rfl, bBel⟩
  focus
    rw [show Bx.uni ⟨ax0, ay0, ax1, ay1⟩ ⟨bx0, by0, bx1, by1⟩ = ⟨bx0, by0, bx1, by1⟩ from by simp [Bx.uni, val4_eq, h1, h2]]
    go_enter Tryz.func67, Tryz.ntmps67
    go_wp2_with (first | (go_at_call 138; (first | (refine Calls.mono (gw_at (boolIs (rxval_b _ _ _ _ _) (b := true) (by assumption))) ?_; rintro e w1 ⟨rfl, q, rfl⟩) | (refine Calls.mono (gw_at (boolIs (rxval_b _ _ _ _ _) (b := false) (by assumption))) ?_; rintro e w1 ⟨rfl, q, rfl⟩) | (refine Calls.mono (gw_at (rxval_b _ _ _ _ _)) ?_; rintro e w1 ⟨rfl, q, rfl⟩))) | (go_at_call 139; (with_reducible show Calls _ _ (#[Value.slice _ 2 _]) _ _); refine Calls.mono (gw_at (rfp2_b _ _ _ _ _ _ _ _ (by first | ((with_reducible refine blk_at ?_); simp; done) | ((with_reducible refine blk_gw (blk_at ?_)); simp; done) | ((with_reducible refine blk_alloc (blk_at ?_)); simp; done) | ((with_reducible refine blk_gw (blk_alloc (blk_at ?_))); simp; done) | with_reducible assumption))) ?_; rintro e w1 ⟨rfl, q, rfl⟩) | (go_at_call 139; (with_reducible show Calls _ _ (#[Value.slice _ 4 _]) _ _); refine Calls.mono (gw_at (rfp4_b _ _ _ _ _ _ _ _ _ _ _ _ (by first | ((with_reducible refine blk_at ?_); simp; done) | ((with_reducible refine blk_gw (blk_at ?_)); simp; done) | ((with_reducible refine blk_alloc (blk_at ?_)); simp; done) | ((with_reducible refine blk_gw (blk_alloc (blk_at ?_))); simp; done) | with_reducible assumption))) ?_; rintro e w1 ⟨rfl, q, rfl⟩) | (go_at_call 139; (with_reducible show Calls _ _ (#[Value.slice _ (List.length _) _]) _ _); refine Calls.mono (gw_at (rfp_b _ _ _ _ (Pts.to (by with_reducible assumption) bBel) (by with_reducible assumption))) ?_; rintro e w1 ⟨rfl, q, rfl⟩))
    exact bodyPost_ret (v := .agg #[.int .i64 bx0, .int .i64 by0, .int .i64 bx1, .int .i64 by1]) (by simp [results, Tryz.results67, go_sem]; try (first | with_reducible rfl | exact ⟨rfl, rfl⟩ | exact ⟨rfl, rfl, rfl⟩ | exact ⟨rfl, rfl, rfl, rfl⟩ | exact ⟨rfl, rfl, rfl, rfl, rfl⟩ | exact ⟨rfl, rfl, rfl, rfl, rfl, rfl⟩ | rfl)) rfl ⟨rfl, bBel⟩
  focus
    rw [show Bx.uni ⟨ax0, ay0, ax1, ay1⟩ ⟨bx0, by0, bx1, by1⟩ = ⟨ax0, ay0, ax1, ay1⟩ from by simp [Bx.uni, val4_eq, h1, h2]]
    go_enter Tryz.func67, Tryz.ntmps67
    go_wp2_with (first | (go_at_call 138; (first | (refine Calls.mono (gw_at (boolIs (rxval_b _ _ _ _ _) (b := true) (by assumption))) ?_; rintro e w1 ⟨rfl, q, rfl⟩) | (refine Calls.mono (gw_at (boolIs (rxval_b _ _ _ _ _) (b := false) (by assumption))) ?_; rintro e w1 ⟨rfl, q, rfl⟩) | (refine Calls.mono (gw_at (rxval_b _ _ _ _ _)) ?_; rintro e w1 ⟨rfl, q, rfl⟩))) | (go_at_call 139; (with_reducible show Calls _ _ (#[Value.slice _ 2 _]) _ _); refine Calls.mono (gw_at (rfp2_b _ _ _ _ _ _ _ _ (by first | ((with_reducible refine blk_at ?_); simp; done) | ((with_reducible refine blk_gw (blk_at ?_)); simp; done) | ((with_reducible refine blk_alloc (blk_at ?_)); simp; done) | ((with_reducible refine blk_gw (blk_alloc (blk_at ?_))); simp; done) | with_reducible assumption))) ?_; rintro e w1 ⟨rfl, q, rfl⟩) | (go_at_call 139; (with_reducible show Calls _ _ (#[Value.slice _ 4 _]) _ _); refine Calls.mono (gw_at (rfp4_b _ _ _ _ _ _ _ _ _ _ _ _ (by first | ((with_reducible refine blk_at ?_); simp; done) | ((with_reducible refine blk_gw (blk_at ?_)); simp; done) | ((with_reducible refine blk_alloc (blk_at ?_)); simp; done) | ((with_reducible refine blk_gw (blk_alloc (blk_at ?_))); simp; done) | with_reducible assumption))) ?_; rintro e w1 ⟨rfl, q, rfl⟩) | (go_at_call 139; (with_reducible show Calls _ _ (#[Value.slice _ (List.length _) _]) _ _); refine Calls.mono (gw_at (rfp_b _ _ _ _ (Pts.to (by with_reducible assumption) bBel) (by with_reducible assumption))) ?_; rintro e w1 ⟨rfl, q, rfl⟩))
    exact bodyPost_ret (v := .agg #[.int .i64 ax0, .int .i64 ay0, .int .i64 ax1, .int .i64 ay1]) (by simp [results, Tryz.results67, go_sem]; try (first | with_reducible rfl | exact ⟨rfl, rfl⟩ | exact ⟨rfl, rfl, rfl⟩ | exact ⟨rfl, rfl, rfl, rfl⟩ | exact ⟨rfl, rfl, rfl, rfl, rfl⟩ | exact ⟨rfl, rfl, rfl, rfl, rfl, rfl⟩ | rfl)) rfl ⟨rfl, bBel⟩
  rw [Bx.uni4 h1 h2]
  go_enter Tryz.func67, Tryz.ntmps67
  go_wp2_with (first | (go_at_call 138; (first | (refine Calls.mono (gw_at (boolIs (rxval_b _ _ _ _ _) (b := true) (by assumption))) ?_; rintro e w1 ⟨rfl, q, rfl⟩) | (refine Calls.mono (gw_at (boolIs (rxval_b _ _ _ _ _) (b := false) (by assumption))) ?_; rintro e w1 ⟨rfl, q, rfl⟩) | (refine Calls.mono (gw_at (rxval_b _ _ _ _ _)) ?_; rintro e w1 ⟨rfl, q, rfl⟩))) | (go_at_call 139; (with_reducible show Calls _ _ (#[Value.slice _ 2 _]) _ _); refine Calls.mono (gw_at (rfp2_b _ _ _ _ _ _ _ _ (by first | ((with_reducible refine blk_at ?_); simp; done) | ((with_reducible refine blk_gw (blk_at ?_)); simp; done) | ((with_reducible refine blk_alloc (blk_at ?_)); simp; done) | ((with_reducible refine blk_gw (blk_alloc (blk_at ?_))); simp; done) | with_reducible assumption))) ?_; rintro e w1 ⟨rfl, q, rfl⟩) | (go_at_call 139; (with_reducible show Calls _ _ (#[Value.slice _ 4 _]) _ _); refine Calls.mono (gw_at (rfp4_b _ _ _ _ _ _ _ _ _ _ _ _ (by first | ((with_reducible refine blk_at ?_); simp; done) | ((with_reducible refine blk_gw (blk_at ?_)); simp; done) | ((with_reducible refine blk_alloc (blk_at ?_)); simp; done) | ((with_reducible refine blk_gw (blk_alloc (blk_at ?_))); simp; done) | with_reducible assumption))) ?_; rintro e w1 ⟨rfl, q, rfl⟩) | (go_at_call 139; (with_reducible show Calls _ _ (#[Value.slice _ (List.length _) _]) _ _); refine Calls.mono (gw_at (rfp_b _ _ _ _ (Pts.to (by with_reducible assumption) bBel) (by with_reducible assumption))) ?_; rintro e w1 ⟨rfl, q, rfl⟩))
  exact bodyPost_ret (v := .agg #[.int .i64 (min (min (min (sat ax0) (sat ax1)) (sat bx0)) (sat bx1)), .int .i64 (min (min (min (sat ay0) (sat ay1)) (sat by0)) (sat by1)), .int .i64 (max (max (max (sat ax0) (sat ax1)) (sat bx0)) (sat bx1)), .int .i64 (max (max (max (sat ay0) (sat ay1)) (sat by0)) (sat by1))]) (by simp [results, Tryz.results67, go_sem]; try (first | with_reducible rfl | exact ⟨rfl, rfl⟩ | exact ⟨rfl, rfl, rfl⟩ | exact ⟨rfl, rfl, rfl, rfl⟩ | exact ⟨rfl, rfl, rfl, rfl, rfl⟩ | exact ⟨rfl, rfl, rfl, rfl, rfl, rfl⟩ | rfl)) rfl ⟨rfl, bBel⟩

theorem rxovl_b (ax0 ay0 ax1 ay1 bx0 by0 bx1 by1 : Int) (w : World) : Calls Tryz.prog 248 #[.agg #[.int .i64 ax0, .int .i64 ay0, .int .i64 ax1, .int .i64 ay1], .agg #[.int .i64 bx0, .int .i64 by0, .int .i64 bx1, .int .i64 by1]] w fun e w' => e = .returned (.bool (ovl8 ax0 ay0 ax1 ay1 bx0 by0 bx1 by1)) ∧ Below w.heap.size w w' := by
  cases h1 : val4 ax0 ay0 ax1 ay1
  focus
    go_enter Tryz.func248, Tryz.ntmps248
    go_wp2_with (first | (go_at_call 138; (first | (refine Calls.mono (gw_at (boolIs (rxval_b _ _ _ _ _) (b := true) (by assumption))) ?_; rintro e w1 ⟨rfl, q, rfl⟩) | (refine Calls.mono (gw_at (boolIs (rxval_b _ _ _ _ _) (b := false) (by assumption))) ?_; rintro e w1 ⟨rfl, q, rfl⟩) | (refine Calls.mono (gw_at (rxval_b _ _ _ _ _)) ?_; rintro e w1 ⟨rfl, q, rfl⟩))))
    all_goals (go_ret; refine ⟨?_, bBel⟩; first | rfl | (simp [ovl8, Bx.ovl, val4_eq, h1]; done) | (simp [ovl8, Bx.ovl, val4_eq, h1]; omega) | (simp [ovl8, Bx.ovl, val4_eq, h1]; rw [Bool.eq_iff_iff]; first | (simp; done) | (simp; omega)))
  cases h2 : val4 bx0 by0 bx1 by1
  focus
    go_enter Tryz.func248, Tryz.ntmps248
    go_wp2_with (first | (go_at_call 138; (first | (refine Calls.mono (gw_at (boolIs (rxval_b _ _ _ _ _) (b := true) (by assumption))) ?_; rintro e w1 ⟨rfl, q, rfl⟩) | (refine Calls.mono (gw_at (boolIs (rxval_b _ _ _ _ _) (b := false) (by assumption))) ?_; rintro e w1 ⟨rfl, q, rfl⟩) | (refine Calls.mono (gw_at (rxval_b _ _ _ _ _)) ?_; rintro e w1 ⟨rfl, q, rfl⟩))))
    all_goals (go_ret; refine ⟨?_, bBel⟩; first | rfl | (simp [ovl8, Bx.ovl, val4_eq, h1, h2]; done) | (simp [ovl8, Bx.ovl, val4_eq, h1, h2]; omega) | (simp [ovl8, Bx.ovl, val4_eq, h1, h2]; rw [Bool.eq_iff_iff]; first | (simp; done) | (simp; omega)))
  go_enter Tryz.func248, Tryz.ntmps248
  go_wp2_with (first | (go_at_call 138; (first | (refine Calls.mono (gw_at (boolIs (rxval_b _ _ _ _ _) (b := true) (by assumption))) ?_; rintro e w1 ⟨rfl, q, rfl⟩) | (refine Calls.mono (gw_at (boolIs (rxval_b _ _ _ _ _) (b := false) (by assumption))) ?_; rintro e w1 ⟨rfl, q, rfl⟩) | (refine Calls.mono (gw_at (rxval_b _ _ _ _ _)) ?_; rintro e w1 ⟨rfl, q, rfl⟩))))
  all_goals (go_ret; refine ⟨?_, bBel⟩; first | rfl | (simp [ovl8, Bx.ovl, val4_eq, h1, h2]; done) | (simp [ovl8, Bx.ovl, val4_eq, h1, h2]; omega) | (simp [ovl8, Bx.ovl, val4_eq, h1, h2]; rw [Bool.eq_iff_iff]; first | (simp; done) | (simp; omega)))

end Go.Proofs.YtdmcdicphohlfaaGreat

set_option linter.unusedVariables false
namespace Go.Proofs.YtdmcdicphohlfaaGreat
open Go.RowKit Fx

def vr (l h : Int) : Bool := decide (-536870911 ≤ l) && decide (l ≤ h) && decide (h ≤ 536870911)
theorem val4_vr (x0 y0 x1 y1 : Int) : val4 x0 y0 x1 y1 = (vr x0 x1 && vr y0 y1) := by
  have e : ∀ z, z = sat z ↔ -536870911 ≤ z ∧ z ≤ 536870911 := fun z => by unfold sat; split <;> (try split) <;> omega
  rw [Bool.eq_iff_iff]
  simp only [val4, Bx.val_iff, Bx.ok, vr, Bool.and_eq_true, decide_eq_true_eq]
  rw [e x0, e y0, e x1, e y1]
  omega
theorem xvr_b (l h : Int) (w : World) : Calls Tryz.prog 168 #[.int .i64 l, .int .i64 h] w fun e w' => e = .returned (.bool (vr l h)) ∧ Below w.heap.size w w' := by
  go_enter Tryz.func168, Tryz.ntmps168
  go_wp2_with fail
  all_goals (go_ret; refine ⟨?_, bBel⟩; first | rfl | (simp [vr]; done) | (simp [vr]; omega) | (simp [vr]; rw [Bool.eq_iff_iff]; first | (simp; done) | (simp; omega)))

theorem xval_b (x0 y0 x1 y1 : Int) (w : World) : Calls Tryz.prog 102 #[.agg #[.int .i64 x0, .int .i64 y0, .int .i64 x1, .int .i64 y1]] w fun e w' => e = .returned (.bool (val4 x0 y0 x1 y1)) ∧ Below w.heap.size w w' := by
  rw [val4_vr]
  cases h1 : vr x0 x1
  focus
    go_enter Tryz.func102, Tryz.ntmps102
    go_wp2_with (first | (go_at_call 168; (first | (refine Calls.mono (gw_at (boolIs (xvr_b _ _ _) (b := true) (by assumption))) ?_; rintro e w1 ⟨rfl, q, rfl⟩) | (refine Calls.mono (gw_at (boolIs (xvr_b _ _ _) (b := false) (by assumption))) ?_; rintro e w1 ⟨rfl, q, rfl⟩) | (refine Calls.mono (gw_at (xvr_b _ _ _)) ?_; rintro e w1 ⟨rfl, q, rfl⟩))))
    go_ret
    exact ⟨rfl, bBel⟩
  go_enter Tryz.func102, Tryz.ntmps102
  go_wp2_with (first | (go_at_call 168; (first | (refine Calls.mono (gw_at (boolIs (xvr_b _ _ _) (b := true) (by assumption))) ?_; rintro e w1 ⟨rfl, q, rfl⟩) | (refine Calls.mono (gw_at (boolIs (xvr_b _ _ _) (b := false) (by assumption))) ?_; rintro e w1 ⟨rfl, q, rfl⟩) | (refine Calls.mono (gw_at (xvr_b _ _ _)) ?_; rintro e w1 ⟨rfl, q, rfl⟩))))
  all_goals (go_ret; refine ⟨?_, bBel⟩; first | rfl | (simp; done) | (simp; omega) | (simp; rw [Bool.eq_iff_iff]; first | (simp; done) | (simp; omega)))

theorem xone_b (x y : Int) (w : World) : Calls Tryz.prog 101 #[.agg #[.int .i64 x, .int .i64 y]] w fun e w' => e = .returned (.agg #[.int .i64 (sat x), .int .i64 (sat y), .int .i64 (sat x), .int .i64 (sat y)]) ∧ Below w.heap.size w w' := by
  go_enter Tryz.func101, Tryz.ntmps101
  go_wp2_with (first | (go_at_call 164; refine Calls.mono (gw_at (sat_b _ _)) ?_; rintro e w1 ⟨rfl, q, rfl⟩))
  repeat
    refine wp_region_gw_tail 7 (by kernel_rfl) (by kernel_rfl) ?_
    simp only [List.take_succ_cons, List.take_zero, List.drop_succ_cons, List.drop_zero]
    repeat (go_big_quiet_step ((first | (go_at_call 164; exact gw_call (sat_b _ _)))))
    refine wpQuiet_nil ?_
    intro w1 hw1
    obtain ⟨q, rfl⟩ := hw1
    go_wp2_with (first | (go_at_call 164; refine Calls.mono (gw_at (sat_b _ _)) ?_; rintro e w1 ⟨rfl, q, rfl⟩))
  exact bodyPost_ret (v := .agg #[.int .i64 (sat x), .int .i64 (sat y), .int .i64 (sat x), .int .i64 (sat y)]) (by simp [results, Tryz.results101, go_sem]; try (first | with_reducible rfl | exact ⟨rfl, rfl⟩ | exact ⟨rfl, rfl, rfl⟩ | exact ⟨rfl, rfl, rfl, rfl⟩ | exact ⟨rfl, rfl, rfl, rfl, rfl⟩ | exact ⟨rfl, rfl, rfl, rfl, rfl, rfl⟩ | rfl)) rfl ⟨rfl, bBel⟩

theorem xbhull_b (ax0 ay0 ax1 ay1 bx0 by0 bx1 by1 : Int) (w : World) : Calls Tryz.prog 135 #[.agg #[.int .i64 ax0, .int .i64 ay0, .int .i64 ax1, .int .i64 ay1], .agg #[.int .i64 bx0, .int .i64 by0, .int .i64 bx1, .int .i64 by1]] w fun e w' => e = .returned (.agg #[.int .i64 (min ax0 bx0), .int .i64 (min ay0 by0), .int .i64 (max ax1 bx1), .int .i64 (max ay1 by1)]) ∧ Below w.heap.size w w' := by
  go_enter Tryz.func135, Tryz.ntmps135
  go_wp2_with fail
  exact bodyPost_ret (v := .agg #[.int .i64 (min ax0 bx0), .int .i64 (min ay0 by0), .int .i64 (max ax1 bx1), .int .i64 (max ay1 by1)]) (by simp [results, Tryz.results135, go_sem]; try (first | with_reducible rfl | exact ⟨rfl, rfl⟩ | exact ⟨rfl, rfl, rfl⟩ | exact ⟨rfl, rfl, rfl, rfl⟩ | exact ⟨rfl, rfl, rfl, rfl, rfl⟩ | exact ⟨rfl, rfl, rfl, rfl, rfl, rfl⟩ | rfl)) rfl ⟨rfl, bBel⟩

set_option maxHeartbeats 800000 in
theorem xuni_b (ax0 ay0 ax1 ay1 bx0 by0 bx1 by1 : Int) (w : World) : Calls Tryz.prog 65 #[.agg #[.int .i64 ax0, .int .i64 ay0, .int .i64 ax1, .int .i64 ay1], .agg #[.int .i64 bx0, .int .i64 by0, .int .i64 bx1, .int .i64 by1]] w fun e w' => e = .returned (.agg #[.int .i64 (Bx.uni ⟨ax0, ay0, ax1, ay1⟩ ⟨bx0, by0, bx1, by1⟩).x0, .int .i64 (Bx.uni ⟨ax0, ay0, ax1, ay1⟩ ⟨bx0, by0, bx1, by1⟩).y0, .int .i64 (Bx.uni ⟨ax0, ay0, ax1, ay1⟩ ⟨bx0, by0, bx1, by1⟩).x1, .int .i64 (Bx.uni ⟨ax0, ay0, ax1, ay1⟩ ⟨bx0, by0, bx1, by1⟩).y1]) ∧ Below w.heap.size w w' := by
  cases h1 : val4 ax0 ay0 ax1 ay1 <;> cases h2 : val4 bx0 by0 bx1 by1
  focus
    rw [show Bx.uni ⟨ax0, ay0, ax1, ay1⟩ ⟨bx0, by0, bx1, by1⟩ = Bx.zero from by simp [Bx.uni, val4_eq, h1, h2]]
    go_enter Tryz.func65, Tryz.ntmps65
    go_wp2_with (first | (go_at_call 102; (first | (refine Calls.mono (gw_at (boolIs (xval_b _ _ _ _ _) (b := true) (by assumption))) ?_; rintro e w1 ⟨rfl, q, rfl⟩) | (refine Calls.mono (gw_at (boolIs (xval_b _ _ _ _ _) (b := false) (by assumption))) ?_; rintro e w1 ⟨rfl, q, rfl⟩) | (refine Calls.mono (gw_at (xval_b _ _ _ _ _)) ?_; rintro e w1 ⟨rfl, q, rfl⟩))) | (go_at_call 135; refine Calls.mono (gw_at (xbhull_b _ _ _ _ _ _ _ _ _)) ?_; rintro e w1 ⟨rfl, q, rfl⟩))
    exact bodyPost_ret (v := .agg #[.int .i64 0, .int .i64 0, .int .i64 0, .int .i64 0]) (by simp [results, Tryz.results65, go_sem]; try (first | with_reducible rfl | exact ⟨rfl, rfl⟩ | exact ⟨rfl, rfl, rfl⟩ | exact ⟨rfl, rfl, rfl, rfl⟩ | exact ⟨rfl, rfl, rfl, rfl, rfl⟩ | exact ⟨rfl, rfl, rfl, rfl, rfl, rfl⟩ | rfl)) rfl ⟨rfl, bBel⟩
  focus
    rw [show Bx.uni ⟨ax0, ay0, ax1, ay1⟩ ⟨bx0, by0, bx1, by1⟩ = ⟨bx0, by0, bx1, by1⟩ from by simp [Bx.uni, val4_eq, h1, h2]]
    go_enter Tryz.func65, Tryz.ntmps65
    go_wp2_with (first | (go_at_call 102; (first | (refine Calls.mono (gw_at (boolIs (xval_b _ _ _ _ _) (b := true) (by assumption))) ?_; rintro e w1 ⟨rfl, q, rfl⟩) | (refine Calls.mono (gw_at (boolIs (xval_b _ _ _ _ _) (b := false) (by assumption))) ?_; rintro e w1 ⟨rfl, q, rfl⟩) | (refine Calls.mono (gw_at (xval_b _ _ _ _ _)) ?_; rintro e w1 ⟨rfl, q, rfl⟩))) | (go_at_call 135; refine Calls.mono (gw_at (xbhull_b _ _ _ _ _ _ _ _ _)) ?_; rintro e w1 ⟨rfl, q, rfl⟩))
    exact bodyPost_ret (v := .agg #[.int .i64 bx0, .int .i64 by0, .int .i64 bx1, .int .i64 by1]) (by simp [results, Tryz.results65, go_sem]; try (first | with_reducible rfl | exact ⟨rfl, rfl⟩ | exact ⟨rfl, rfl, rfl⟩ | exact ⟨rfl, rfl, rfl, rfl⟩ | exact ⟨rfl, rfl, rfl, rfl, rfl⟩ | exact ⟨rfl, rfl, rfl, rfl, rfl, rfl⟩ | rfl)) rfl ⟨rfl, bBel⟩
  focus
    rw [show Bx.uni ⟨ax0, ay0, ax1, ay1⟩ ⟨bx0, by0, bx1, by1⟩ = ⟨ax0, ay0, ax1, ay1⟩ from by simp [Bx.uni, val4_eq, h1, h2]]
    go_enter Tryz.func65, Tryz.ntmps65
    go_wp2_with (first | (go_at_call 102; (first | (refine Calls.mono (gw_at (boolIs (xval_b _ _ _ _ _) (b := true) (by assumption))) ?_; rintro e w1 ⟨rfl, q, rfl⟩) | (refine Calls.mono (gw_at (boolIs (xval_b _ _ _ _ _) (b := false) (by assumption))) ?_; rintro e w1 ⟨rfl, q, rfl⟩) | (refine Calls.mono (gw_at (xval_b _ _ _ _ _)) ?_; rintro e w1 ⟨rfl, q, rfl⟩))) | (go_at_call 135; refine Calls.mono (gw_at (xbhull_b _ _ _ _ _ _ _ _ _)) ?_; rintro e w1 ⟨rfl, q, rfl⟩))
    exact bodyPost_ret (v := .agg #[.int .i64 ax0, .int .i64 ay0, .int .i64 ax1, .int .i64 ay1]) (by simp [results, Tryz.results65, go_sem]; try (first | with_reducible rfl | exact ⟨rfl, rfl⟩ | exact ⟨rfl, rfl, rfl⟩ | exact ⟨rfl, rfl, rfl, rfl⟩ | exact ⟨rfl, rfl, rfl, rfl, rfl⟩ | exact ⟨rfl, rfl, rfl, rfl, rfl, rfl⟩ | rfl)) rfl ⟨rfl, bBel⟩
  rw [show Bx.uni ⟨ax0, ay0, ax1, ay1⟩ ⟨bx0, by0, bx1, by1⟩ = ⟨min ax0 bx0, min ay0 by0, max ax1 bx1, max ay1 by1⟩ from by simp [Bx.uni, val4_eq, h1, h2]]
  go_enter Tryz.func65, Tryz.ntmps65
  go_wp2_with (first | (go_at_call 102; (first | (refine Calls.mono (gw_at (boolIs (xval_b _ _ _ _ _) (b := true) (by assumption))) ?_; rintro e w1 ⟨rfl, q, rfl⟩) | (refine Calls.mono (gw_at (boolIs (xval_b _ _ _ _ _) (b := false) (by assumption))) ?_; rintro e w1 ⟨rfl, q, rfl⟩) | (refine Calls.mono (gw_at (xval_b _ _ _ _ _)) ?_; rintro e w1 ⟨rfl, q, rfl⟩))) | (go_at_call 135; refine Calls.mono (gw_at (xbhull_b _ _ _ _ _ _ _ _ _)) ?_; rintro e w1 ⟨rfl, q, rfl⟩))
  exact bodyPost_ret (v := .agg #[.int .i64 (min ax0 bx0), .int .i64 (min ay0 by0), .int .i64 (max ax1 bx1), .int .i64 (max ay1 by1)]) (by simp [results, Tryz.results65, go_sem]; try (first | with_reducible rfl | exact ⟨rfl, rfl⟩ | exact ⟨rfl, rfl, rfl⟩ | exact ⟨rfl, rfl, rfl, rfl⟩ | exact ⟨rfl, rfl, rfl, rfl, rfl⟩ | exact ⟨rfl, rfl, rfl, rfl, rfl, rfl⟩ | rfl)) rfl ⟨rfl, bBel⟩

theorem xovl_b (ax0 ay0 ax1 ay1 bx0 by0 bx1 by1 : Int) (w : World) : Calls Tryz.prog 115 #[.agg #[.int .i64 ax0, .int .i64 ay0, .int .i64 ax1, .int .i64 ay1], .agg #[.int .i64 bx0, .int .i64 by0, .int .i64 bx1, .int .i64 by1]] w fun e w' => e = .returned (.bool (ovl8 ax0 ay0 ax1 ay1 bx0 by0 bx1 by1)) ∧ Below w.heap.size w w' := by
  cases h1 : val4 ax0 ay0 ax1 ay1
  focus
    go_enter Tryz.func115, Tryz.ntmps115
    go_wp2_with (first | (go_at_call 102; (first | (refine Calls.mono (gw_at (boolIs (xval_b _ _ _ _ _) (b := true) (by assumption))) ?_; rintro e w1 ⟨rfl, q, rfl⟩) | (refine Calls.mono (gw_at (boolIs (xval_b _ _ _ _ _) (b := false) (by assumption))) ?_; rintro e w1 ⟨rfl, q, rfl⟩) | (refine Calls.mono (gw_at (xval_b _ _ _ _ _)) ?_; rintro e w1 ⟨rfl, q, rfl⟩))))
    all_goals (go_ret; refine ⟨?_, bBel⟩; first | rfl | (simp [ovl8, Bx.ovl, val4_eq, h1]; done) | (simp [ovl8, Bx.ovl, val4_eq, h1]; omega) | (simp [ovl8, Bx.ovl, val4_eq, h1]; rw [Bool.eq_iff_iff]; first | (simp; done) | (simp; omega)))
  cases h2 : val4 bx0 by0 bx1 by1
  focus
    go_enter Tryz.func115, Tryz.ntmps115
    go_wp2_with (first | (go_at_call 102; (first | (refine Calls.mono (gw_at (boolIs (xval_b _ _ _ _ _) (b := true) (by assumption))) ?_; rintro e w1 ⟨rfl, q, rfl⟩) | (refine Calls.mono (gw_at (boolIs (xval_b _ _ _ _ _) (b := false) (by assumption))) ?_; rintro e w1 ⟨rfl, q, rfl⟩) | (refine Calls.mono (gw_at (xval_b _ _ _ _ _)) ?_; rintro e w1 ⟨rfl, q, rfl⟩))))
    all_goals (go_ret; refine ⟨?_, bBel⟩; first | rfl | (simp [ovl8, Bx.ovl, val4_eq, h1, h2]; done) | (simp [ovl8, Bx.ovl, val4_eq, h1, h2]; omega) | (simp [ovl8, Bx.ovl, val4_eq, h1, h2]; rw [Bool.eq_iff_iff]; first | (simp; done) | (simp; omega)))
  go_enter Tryz.func115, Tryz.ntmps115
  go_wp2_with (first | (go_at_call 102; (first | (refine Calls.mono (gw_at (boolIs (xval_b _ _ _ _ _) (b := true) (by assumption))) ?_; rintro e w1 ⟨rfl, q, rfl⟩) | (refine Calls.mono (gw_at (boolIs (xval_b _ _ _ _ _) (b := false) (by assumption))) ?_; rintro e w1 ⟨rfl, q, rfl⟩) | (refine Calls.mono (gw_at (xval_b _ _ _ _ _)) ?_; rintro e w1 ⟨rfl, q, rfl⟩))))
  all_goals (go_ret; refine ⟨?_, bBel⟩; first | rfl | (simp [ovl8, Bx.ovl, val4_eq, h1, h2]; done) | (simp [ovl8, Bx.ovl, val4_eq, h1, h2]; omega) | (simp [ovl8, Bx.ovl, val4_eq, h1, h2]; rw [Bool.eq_iff_iff]; first | (simp; done) | (simp; omega)))

theorem xcon_b (ax0 ay0 ax1 ay1 bx0 by0 bx1 by1 : Int) (w : World) : Calls Tryz.prog 100 #[.agg #[.int .i64 ax0, .int .i64 ay0, .int .i64 ax1, .int .i64 ay1], .agg #[.int .i64 bx0, .int .i64 by0, .int .i64 bx1, .int .i64 by1]] w fun e w' => e = .returned (.bool (con8 ax0 ay0 ax1 ay1 bx0 by0 bx1 by1)) ∧ Below w.heap.size w w' := by
  cases h1 : val4 ax0 ay0 ax1 ay1
  focus
    go_enter Tryz.func100, Tryz.ntmps100
    go_wp2_with (first | (go_at_call 102; (first | (refine Calls.mono (gw_at (boolIs (xval_b _ _ _ _ _) (b := true) (by assumption))) ?_; rintro e w1 ⟨rfl, q, rfl⟩) | (refine Calls.mono (gw_at (boolIs (xval_b _ _ _ _ _) (b := false) (by assumption))) ?_; rintro e w1 ⟨rfl, q, rfl⟩) | (refine Calls.mono (gw_at (xval_b _ _ _ _ _)) ?_; rintro e w1 ⟨rfl, q, rfl⟩))))
    all_goals (go_ret; refine ⟨?_, bBel⟩; first | rfl | (simp [con8, Bx.con, val4_eq, h1]; done) | (simp [con8, Bx.con, val4_eq, h1]; omega) | (simp [con8, Bx.con, val4_eq, h1]; rw [Bool.eq_iff_iff]; first | (simp; done) | (simp; omega)))
  cases h2 : val4 bx0 by0 bx1 by1
  focus
    go_enter Tryz.func100, Tryz.ntmps100
    go_wp2_with (first | (go_at_call 102; (first | (refine Calls.mono (gw_at (boolIs (xval_b _ _ _ _ _) (b := true) (by assumption))) ?_; rintro e w1 ⟨rfl, q, rfl⟩) | (refine Calls.mono (gw_at (boolIs (xval_b _ _ _ _ _) (b := false) (by assumption))) ?_; rintro e w1 ⟨rfl, q, rfl⟩) | (refine Calls.mono (gw_at (xval_b _ _ _ _ _)) ?_; rintro e w1 ⟨rfl, q, rfl⟩))))
    all_goals (go_ret; refine ⟨?_, bBel⟩; first | rfl | (simp [con8, Bx.con, val4_eq, h1, h2]; done) | (simp [con8, Bx.con, val4_eq, h1, h2]; omega) | (simp [con8, Bx.con, val4_eq, h1, h2]; rw [Bool.eq_iff_iff]; first | (simp; done) | (simp; omega)))
  go_enter Tryz.func100, Tryz.ntmps100
  go_wp2_with (first | (go_at_call 102; (first | (refine Calls.mono (gw_at (boolIs (xval_b _ _ _ _ _) (b := true) (by assumption))) ?_; rintro e w1 ⟨rfl, q, rfl⟩) | (refine Calls.mono (gw_at (boolIs (xval_b _ _ _ _ _) (b := false) (by assumption))) ?_; rintro e w1 ⟨rfl, q, rfl⟩) | (refine Calls.mono (gw_at (xval_b _ _ _ _ _)) ?_; rintro e w1 ⟨rfl, q, rfl⟩))))
  all_goals (go_ret; refine ⟨?_, bBel⟩; first | rfl | (simp [con8, Bx.con, val4_eq, h1, h2]; done) | (simp [con8, Bx.con, val4_eq, h1, h2]; omega) | (simp [con8, Bx.con, val4_eq, h1, h2]; rw [Bool.eq_iff_iff]; first | (simp; done) | (simp; omega)))

set_option maxHeartbeats 800000 in
theorem xexp_b (x0 y0 x1 y1 m : Int) (w : World) : Calls Tryz.prog 40 #[.agg #[.int .i64 x0, .int .i64 y0, .int .i64 x1, .int .i64 y1], .int .i64 m] w fun e w' => e = .returned (.agg #[.int .i64 (Bx.exp ⟨x0, y0, x1, y1⟩ m).x0, .int .i64 (Bx.exp ⟨x0, y0, x1, y1⟩ m).y0, .int .i64 (Bx.exp ⟨x0, y0, x1, y1⟩ m).x1, .int .i64 (Bx.exp ⟨x0, y0, x1, y1⟩ m).y1]) ∧ Below w.heap.size w w' := by
  cases h1 : val4 x0 y0 x1 y1
  focus
    rw [show Bx.exp ⟨x0, y0, x1, y1⟩ m = Bx.zero from by simp [Bx.exp, val4_eq, h1]]
    go_enter Tryz.func40, Tryz.ntmps40
    go_wp2_with (first | (go_at_call 102; (first | (refine Calls.mono (gw_at (boolIs (xval_b _ _ _ _ _) (b := true) (by assumption))) ?_; rintro e w1 ⟨rfl, q, rfl⟩) | (refine Calls.mono (gw_at (boolIs (xval_b _ _ _ _ _) (b := false) (by assumption))) ?_; rintro e w1 ⟨rfl, q, rfl⟩) | (refine Calls.mono (gw_at (xval_b _ _ _ _ _)) ?_; rintro e w1 ⟨rfl, q, rfl⟩))) | (go_at_call 97; refine Calls.mono (gw_at (vsub_b _ _ _ _ _)) ?_; rintro e w1 ⟨rfl, q, rfl⟩) | (go_at_call 74; refine Calls.mono (gw_at (vadd_b _ _ _ _ _)) ?_; rintro e w1 ⟨rfl, q, rfl⟩))
    repeat
      apply wp_box1 10 28 9 6 #[.int .i64 0, .int .i64 0, .int .i64 0, .int .i64 0] 45 (by kernel_rfl) (by rfl) (by kernel_rfl) (by intro o ho a w; simp at ho; subst ho; simp [go_sem, ptr])
      · intro p0
        simp only [heads, ghost, List.take_succ_cons, List.take_zero, List.map_cons, List.map_nil]
        repeat (go_big_quiet_step ((first | (go_at_call 102; (first | (exact gw_call (boolIs (xval_b _ _ _ _ _) (b := true) (by assumption))) | (exact gw_call (boolIs (xval_b _ _ _ _ _) (b := false) (by assumption))) | (exact gw_call (xval_b _ _ _ _ _)))) | (go_at_call 97; exact gw_call (vsub_b _ _ _ _ _)) | (go_at_call 74; exact gw_call (vadd_b _ _ _ _ _)))))
        exact wpQuiet_nil rfl
      · intro R bB p0 nB gB  kB hK
        simp only [List.drop_succ_cons, List.drop_zero, Act.put, ptr, List.setIfInBounds_toArray, List.set_cons_succ, List.set_cons_zero]
        have cB_0 : _ = some _ := blk_cell kB 0
        have cB_1 : _ = some _ := blk_cell kB 1
        have cB_2 : _ = some _ := blk_cell kB 2
        have cB_3 : _ = some _ := blk_cell kB 3
        have fB_0 := blk_free kB 0
        have fB_1 := blk_free kB 1
        have fB_2 := blk_free kB 2
        have fB_3 := blk_free kB 3
        have oB := blk_older kB
        go_wp2_with fail
        refine box_end1 gB hK ?_ ?_
        · exact bBel
        · exact (by repeat' (first | with_reducible assumption | with_reducible apply blk_gw | with_reducible apply blk_alloc | with_reducible apply blk_set | ((with_reducible apply blk_other); focus (first | omega | assumption))))
      intro bB p0 nB  kB
      have cB_0 : _ = some _ := blk_cell kB 0
      have cB_1 : _ = some _ := blk_cell kB 1
      have cB_2 : _ = some _ := blk_cell kB 2
      have cB_3 : _ = some _ := blk_cell kB 3
      have fB_0 := blk_free kB 0
      have fB_1 := blk_free kB 1
      have fB_2 := blk_free kB 2
      have fB_3 := blk_free kB 3
      have oB := blk_older kB
      go_wp2_with (first | (go_at_call 102; (first | (refine Calls.mono (gw_at (boolIs (xval_b _ _ _ _ _) (b := true) (by assumption))) ?_; rintro e w1 ⟨rfl, q, rfl⟩) | (refine Calls.mono (gw_at (boolIs (xval_b _ _ _ _ _) (b := false) (by assumption))) ?_; rintro e w1 ⟨rfl, q, rfl⟩) | (refine Calls.mono (gw_at (xval_b _ _ _ _ _)) ?_; rintro e w1 ⟨rfl, q, rfl⟩))) | (go_at_call 97; refine Calls.mono (gw_at (vsub_b _ _ _ _ _)) ?_; rintro e w1 ⟨rfl, q, rfl⟩) | (go_at_call 74; refine Calls.mono (gw_at (vadd_b _ _ _ _ _)) ?_; rintro e w1 ⟨rfl, q, rfl⟩))
    exact bodyPost_ret (v := .agg #[.int .i64 0, .int .i64 0, .int .i64 0, .int .i64 0]) (by simp [results, Tryz.results40, go_sem]; try (first | with_reducible rfl | exact ⟨rfl, rfl⟩ | exact ⟨rfl, rfl, rfl⟩ | exact ⟨rfl, rfl, rfl, rfl⟩ | exact ⟨rfl, rfl, rfl, rfl, rfl⟩ | exact ⟨rfl, rfl, rfl, rfl, rfl, rfl⟩ | rfl)) rfl ⟨rfl, bBel⟩
  cases h2 : val4 (sub x0 m) (sub y0 m) (add x1 m) (add y1 m)
  focus
    rw [show Bx.exp ⟨x0, y0, x1, y1⟩ m = Bx.zero from by simp [Bx.exp, val4_eq, h1, Bx.mar, h2]]
    go_enter Tryz.func40, Tryz.ntmps40
    go_wp2_with (first | (go_at_call 102; (first | (refine Calls.mono (gw_at (boolIs (xval_b _ _ _ _ _) (b := true) (by assumption))) ?_; rintro e w1 ⟨rfl, q, rfl⟩) | (refine Calls.mono (gw_at (boolIs (xval_b _ _ _ _ _) (b := false) (by assumption))) ?_; rintro e w1 ⟨rfl, q, rfl⟩) | (refine Calls.mono (gw_at (xval_b _ _ _ _ _)) ?_; rintro e w1 ⟨rfl, q, rfl⟩))) | (go_at_call 97; refine Calls.mono (gw_at (vsub_b _ _ _ _ _)) ?_; rintro e w1 ⟨rfl, q, rfl⟩) | (go_at_call 74; refine Calls.mono (gw_at (vadd_b _ _ _ _ _)) ?_; rintro e w1 ⟨rfl, q, rfl⟩))
    repeat
      apply wp_box1 10 28 9 6 #[.int .i64 0, .int .i64 0, .int .i64 0, .int .i64 0] 45 (by kernel_rfl) (by rfl) (by kernel_rfl) (by intro o ho a w; simp at ho; subst ho; simp [go_sem, ptr])
      · intro p0
        simp only [heads, ghost, List.take_succ_cons, List.take_zero, List.map_cons, List.map_nil]
        repeat (go_big_quiet_step ((first | (go_at_call 102; (first | (exact gw_call (boolIs (xval_b _ _ _ _ _) (b := true) (by assumption))) | (exact gw_call (boolIs (xval_b _ _ _ _ _) (b := false) (by assumption))) | (exact gw_call (xval_b _ _ _ _ _)))) | (go_at_call 97; exact gw_call (vsub_b _ _ _ _ _)) | (go_at_call 74; exact gw_call (vadd_b _ _ _ _ _)))))
        exact wpQuiet_nil rfl
      · intro R bB p0 nB gB  kB hK
        simp only [List.drop_succ_cons, List.drop_zero, Act.put, ptr, List.setIfInBounds_toArray, List.set_cons_succ, List.set_cons_zero]
        have cB_0 : _ = some _ := blk_cell kB 0
        have cB_1 : _ = some _ := blk_cell kB 1
        have cB_2 : _ = some _ := blk_cell kB 2
        have cB_3 : _ = some _ := blk_cell kB 3
        have fB_0 := blk_free kB 0
        have fB_1 := blk_free kB 1
        have fB_2 := blk_free kB 2
        have fB_3 := blk_free kB 3
        have oB := blk_older kB
        go_wp2_with fail
        refine box_end1 gB hK ?_ ?_
        · exact bBel
        · exact (by repeat' (first | with_reducible assumption | with_reducible apply blk_gw | with_reducible apply blk_alloc | with_reducible apply blk_set | ((with_reducible apply blk_other); focus (first | omega | assumption))))
      intro bB p0 nB  kB
      have cB_0 : _ = some _ := blk_cell kB 0
      have cB_1 : _ = some _ := blk_cell kB 1
      have cB_2 : _ = some _ := blk_cell kB 2
      have cB_3 : _ = some _ := blk_cell kB 3
      have fB_0 := blk_free kB 0
      have fB_1 := blk_free kB 1
      have fB_2 := blk_free kB 2
      have fB_3 := blk_free kB 3
      have oB := blk_older kB
      go_wp2_with (first | (go_at_call 102; (first | (refine Calls.mono (gw_at (boolIs (xval_b _ _ _ _ _) (b := true) (by assumption))) ?_; rintro e w1 ⟨rfl, q, rfl⟩) | (refine Calls.mono (gw_at (boolIs (xval_b _ _ _ _ _) (b := false) (by assumption))) ?_; rintro e w1 ⟨rfl, q, rfl⟩) | (refine Calls.mono (gw_at (xval_b _ _ _ _ _)) ?_; rintro e w1 ⟨rfl, q, rfl⟩))) | (go_at_call 97; refine Calls.mono (gw_at (vsub_b _ _ _ _ _)) ?_; rintro e w1 ⟨rfl, q, rfl⟩) | (go_at_call 74; refine Calls.mono (gw_at (vadd_b _ _ _ _ _)) ?_; rintro e w1 ⟨rfl, q, rfl⟩))
    exact bodyPost_ret (v := .agg #[.int .i64 0, .int .i64 0, .int .i64 0, .int .i64 0]) (by simp [results, Tryz.results40, go_sem]; try (first | with_reducible rfl | exact ⟨rfl, rfl⟩ | exact ⟨rfl, rfl, rfl⟩ | exact ⟨rfl, rfl, rfl, rfl⟩ | exact ⟨rfl, rfl, rfl, rfl, rfl⟩ | exact ⟨rfl, rfl, rfl, rfl, rfl, rfl⟩ | rfl)) rfl ⟨rfl, bBel⟩
  rw [show Bx.exp ⟨x0, y0, x1, y1⟩ m = ⟨sub x0 m, sub y0 m, add x1 m, add y1 m⟩ from by simp [Bx.exp, val4_eq, h1, Bx.mar, h2]]
  go_enter Tryz.func40, Tryz.ntmps40
  go_wp2_with (first | (go_at_call 102; (first | (refine Calls.mono (gw_at (boolIs (xval_b _ _ _ _ _) (b := true) (by assumption))) ?_; rintro e w1 ⟨rfl, q, rfl⟩) | (refine Calls.mono (gw_at (boolIs (xval_b _ _ _ _ _) (b := false) (by assumption))) ?_; rintro e w1 ⟨rfl, q, rfl⟩) | (refine Calls.mono (gw_at (xval_b _ _ _ _ _)) ?_; rintro e w1 ⟨rfl, q, rfl⟩))) | (go_at_call 97; refine Calls.mono (gw_at (vsub_b _ _ _ _ _)) ?_; rintro e w1 ⟨rfl, q, rfl⟩) | (go_at_call 74; refine Calls.mono (gw_at (vadd_b _ _ _ _ _)) ?_; rintro e w1 ⟨rfl, q, rfl⟩))
  repeat
    apply wp_box1 10 28 9 6 #[.int .i64 0, .int .i64 0, .int .i64 0, .int .i64 0] 45 (by kernel_rfl) (by rfl) (by kernel_rfl) (by intro o ho a w; simp at ho; subst ho; simp [go_sem, ptr])
    · intro p0
      simp only [heads, ghost, List.take_succ_cons, List.take_zero, List.map_cons, List.map_nil]
      repeat (go_big_quiet_step ((first | (go_at_call 102; (first | (exact gw_call (boolIs (xval_b _ _ _ _ _) (b := true) (by assumption))) | (exact gw_call (boolIs (xval_b _ _ _ _ _) (b := false) (by assumption))) | (exact gw_call (xval_b _ _ _ _ _)))) | (go_at_call 97; exact gw_call (vsub_b _ _ _ _ _)) | (go_at_call 74; exact gw_call (vadd_b _ _ _ _ _)))))
      exact wpQuiet_nil rfl
    · intro R bB p0 nB gB  kB hK
      simp only [List.drop_succ_cons, List.drop_zero, Act.put, ptr, List.setIfInBounds_toArray, List.set_cons_succ, List.set_cons_zero]
      have cB_0 : _ = some _ := blk_cell kB 0
      have cB_1 : _ = some _ := blk_cell kB 1
      have cB_2 : _ = some _ := blk_cell kB 2
      have cB_3 : _ = some _ := blk_cell kB 3
      have fB_0 := blk_free kB 0
      have fB_1 := blk_free kB 1
      have fB_2 := blk_free kB 2
      have fB_3 := blk_free kB 3
      have oB := blk_older kB
      go_wp2_with fail
      refine box_end1 gB hK ?_ ?_
      · exact bBel
      · exact (by repeat' (first | with_reducible assumption | with_reducible apply blk_gw | with_reducible apply blk_alloc | with_reducible apply blk_set | ((with_reducible apply blk_other); focus (first | omega | assumption))))
    intro bB p0 nB  kB
    have cB_0 : _ = some _ := blk_cell kB 0
    have cB_1 : _ = some _ := blk_cell kB 1
    have cB_2 : _ = some _ := blk_cell kB 2
    have cB_3 : _ = some _ := blk_cell kB 3
    have fB_0 := blk_free kB 0
    have fB_1 := blk_free kB 1
    have fB_2 := blk_free kB 2
    have fB_3 := blk_free kB 3
    have oB := blk_older kB
    go_wp2_with (first | (go_at_call 102; (first | (refine Calls.mono (gw_at (boolIs (xval_b _ _ _ _ _) (b := true) (by assumption))) ?_; rintro e w1 ⟨rfl, q, rfl⟩) | (refine Calls.mono (gw_at (boolIs (xval_b _ _ _ _ _) (b := false) (by assumption))) ?_; rintro e w1 ⟨rfl, q, rfl⟩) | (refine Calls.mono (gw_at (xval_b _ _ _ _ _)) ?_; rintro e w1 ⟨rfl, q, rfl⟩))) | (go_at_call 97; refine Calls.mono (gw_at (vsub_b _ _ _ _ _)) ?_; rintro e w1 ⟨rfl, q, rfl⟩) | (go_at_call 74; refine Calls.mono (gw_at (vadd_b _ _ _ _ _)) ?_; rintro e w1 ⟨rfl, q, rfl⟩))
  exact bodyPost_ret (v := .agg #[.int .i64 (sub x0 m), .int .i64 (sub y0 m), .int .i64 (add x1 m), .int .i64 (add y1 m)]) (by simp [results, Tryz.results40, go_sem]; try (first | with_reducible rfl | exact ⟨rfl, rfl⟩ | exact ⟨rfl, rfl, rfl⟩ | exact ⟨rfl, rfl, rfl, rfl⟩ | exact ⟨rfl, rfl, rfl, rfl, rfl⟩ | exact ⟨rfl, rfl, rfl, rfl, rfl, rfl⟩ | rfl)) rfl ⟨rfl, bBel⟩

end Go.Proofs.YtdmcdicphohlfaaGreat

set_option linter.unusedVariables false
namespace Go.Proofs.YtdmcdicphohlfaaGreat
open Go.RowKit Fx

theorem rfp_b (A : Option Addr) (cap : Nat) (ps : List (Int × Int)) (w : World) (h : Pts w A ps) (hl : ps.length ≤ 4611686018427387904) : Calls Tryz.prog 139 #[.slice A ps.length cap] w fun e w' => e = .returned (.tuple #[.agg #[.int .i64 (Bx.pts ps).x0, .int .i64 (Bx.pts ps).y0, .int .i64 (Bx.pts ps).x1, .int .i64 (Bx.pts ps).y1], .bool (decide (0 < ps.length))]) ∧ Below w.heap.size w w' := by
  by_cases h0 : 0 < ps.length
  · obtain ⟨b, off, rfl, hc⟩ := h.open h0
    rw [decide_eq_true h0]
    exact rfp1_b b off cap ps w h0 hl hc
  · obtain rfl : ps = [] := List.eq_nil_of_length_eq_zero (by omega)
    exact rfp0_b A cap w

set_option maxHeartbeats 2000000 in
theorem xfp1_b (b off cap : Nat) (ps : List (Int × Int)) (w : World) (hn : 0 < ps.length) (hl : ps.length ≤ 4611686018427387904) (hk : ps.length ≤ cap) (hc : ∀ i (h : i < ps.length), w.cell? ⟨b, off + i * 2, none⟩ = some (.int .i64 ps[i].1) ∧ w.cell? ⟨b, off + i * 2 + 1, none⟩ = some (.int .i64 ps[i].2)) : Calls Tryz.prog 134 #[.slice (some ⟨b, off, none⟩) ps.length cap] w fun e w' => e = .returned (.tuple #[.agg #[.int .i64 (Bx.pts ps).x0, .int .i64 (Bx.pts ps).y0, .int .i64 (Bx.pts ps).x1, .int .i64 (Bx.pts ps).y1], .bool true]) ∧ Below w.heap.size w w' := by
  obtain ⟨c0, c1⟩ := hc 0 hn
  have ob := older_of_cell c0
  have hn' : (0 : Int) < (ps.length : Int) := by omega
  have hn1 : (1 : Int) ≤ (ps.length : Int) := by omega
  have hk1 : (1 : Int) ≤ (cap : Int) := by omega
  have hk2 : (ps.length : Int) ≤ (cap : Int) := by omega
  simp only [Nat.zero_mul, Nat.add_zero] at c0 c1
  have e1 : Bx.pts (ps.take 1) = Bx.one ps[0] := Bx.pts_one hn
  by_cases hcap : cap = 1
  focus
    have i1 : ¬ (0 : Int) < ((ps.length - 1 : Nat) : Int) := by omega
    have et : ps.take 1 = ps := by rw [List.take_of_length_le (by omega)]
    rw [et] at e1
    rw [e1]
    simp only [Bx.one]
    go_enter Tryz.func134, Tryz.ntmps134
    go_wp2_with (first | (go_at_call 101; refine Calls.mono (gw_at (xone_b _ _ _)) ?_; rintro e w1 ⟨rfl, q, rfl⟩) | (go_at_call 135; refine Calls.mono (gw_at (xbhull_b _ _ _ _ _ _ _ _ _)) ?_; rintro e w1 ⟨rfl, q, rfl⟩))
    refine wp_named ?_
    intro W hW
    have k4 : blk W (w.heap.size + 1 + q.os.size) #[.int .i64 (sat ps[0].1), .int .i64 (sat ps[0].2), .int .i64 (sat ps[0].1), .int .i64 (sat ps[0].2)] 45 := by rw [hW]; exact bBkn
    have k2 : blk W w.heap.size #[.int .i64 0, .int .i64 0, .int .i64 0, .int .i64 0] 45 := by rw [hW]; exact bBkn
    have hb : Below w.heap.size w W := by rw [hW]; exact bBel
    clear hW
    have ok4 := blk_older k4
    have ck4_0 : _ = some _ := blk_cell k4 0
    have ck4_1 : _ = some _ := blk_cell k4 1
    have ck4_2 : _ = some _ := blk_cell k4 2
    have ck4_3 : _ = some _ := blk_cell k4 3
    have fk4_0 := blk_free k4 0
    have fk4_1 := blk_free k4 1
    have fk4_2 := blk_free k4 2
    have fk4_3 := blk_free k4 3
    have ok2 := blk_older k2
    have ck2_0 : _ = some _ := blk_cell k2 0
    have ck2_1 : _ = some _ := blk_cell k2 1
    have ck2_2 : _ = some _ := blk_cell k2 2
    have ck2_3 : _ = some _ := blk_cell k2 3
    have fk2_0 := blk_free k2 0
    have fk2_1 := blk_free k2 1
    have fk2_2 := blk_free k2 2
    have fk2_3 := blk_free k2 3
    go_loopw [18] (fun i wr => i = .int .i64 0 ∧ wr = W)
      (fun i _ => 0)
    case atStart => exact ⟨rfl, rfl⟩
    case round =>
      obtain ⟨rfl, rfl⟩ := hrel
      go_wp2_with (first | (go_at_call 101; refine Calls.mono (gw_at (xone_b _ _ _)) ?_; rintro e w1 ⟨rfl, q, rfl⟩) | (go_at_call 135; refine Calls.mono (gw_at (xbhull_b _ _ _ _ _ _ _ _ _)) ?_; rintro e w1 ⟨rfl, q, rfl⟩))
      exact bodyPost_ret (v := .tuple #[.agg #[.int .i64 (sat ps[0].1), .int .i64 (sat ps[0].2), .int .i64 (sat ps[0].1), .int .i64 (sat ps[0].2)], .bool true]) (by simp [results, Tryz.results134, go_sem, ck2_0, ck2_1, ck2_2, ck2_3]) rfl ⟨rfl, bBel⟩
  go_enter Tryz.func134, Tryz.ntmps134
  go_wp2_with (first | (go_at_call 101; refine Calls.mono (gw_at (xone_b _ _ _)) ?_; rintro e w1 ⟨rfl, q, rfl⟩) | (go_at_call 135; refine Calls.mono (gw_at (xbhull_b _ _ _ _ _ _ _ _ _)) ?_; rintro e w1 ⟨rfl, q, rfl⟩))
  have g5 : w.heap.size < w.heap.size + 1 + q.os.size := by omega
  generalize hB5 : w.heap.size + 1 + q.os.size = B5 at *
  go_loopw [18] (fun i wr => ∃ k : Nat, k + 1 ≤ ps.length ∧ i = .int .i64 k ∧ blk wr B5 #[.int .i64 (Bx.pts (ps.take (k + 1))).x0, .int .i64 (Bx.pts (ps.take (k + 1))).y0, .int .i64 (Bx.pts (ps.take (k + 1))).x1, .int .i64 (Bx.pts (ps.take (k + 1))).y1] 45 ∧
      blk wr w.heap.size #[.int .i64 0, .int .i64 0, .int .i64 0, .int .i64 0] 45 ∧ Below w.heap.size w wr)
    (fun i _ => (ps.length - intOf i).toNat)
  case atStart =>
    refine ⟨0, by omega, rfl, ?_, ?_, bBel⟩
    · rw [e1]; exact blk_at (by simp; omega)
    · exact bBkn
  case round =>
    obtain ⟨k, k1, rfl, h5, h2, hbw⟩ := hrel
    have oh5 := blk_older h5
    have ch5_0 : _ = some _ := blk_cell h5 0
    have ch5_1 : _ = some _ := blk_cell h5 1
    have ch5_2 : _ = some _ := blk_cell h5 2
    have ch5_3 : _ = some _ := blk_cell h5 3
    have fh5_0 := blk_free h5 0
    have fh5_1 := blk_free h5 1
    have fh5_2 := blk_free h5 2
    have fh5_3 := blk_free h5 3
    have oh2 := blk_older h2
    have ch2_0 : _ = some _ := blk_cell h2 0
    have ch2_1 : _ = some _ := blk_cell h2 1
    have ch2_2 : _ = some _ := blk_cell h2 2
    have ch2_3 : _ = some _ := blk_cell h2 3
    have fh2_0 := blk_free h2 0
    have fh2_1 := blk_free h2 1
    have fh2_2 := blk_free h2 2
    have fh2_3 := blk_free h2 3
    have hsz := hbw.size
    by_cases hlt : k + 1 < ps.length
    · obtain ⟨d0, d1⟩ := hc (k + 1) hlt
      have hob := World.block_lt_of_cell? w ⟨b, off + (k + 1) * 2, none⟩ d0
      have d0' : wr.cell? ⟨b, off + (k + 1) * 2, none⟩ = some (.int .i64 ps[k + 1].1) := (hbw.cell (p := ⟨b, off + (k + 1) * 2, none⟩) hob).trans d0
      have d1' : wr.cell? ⟨b, off + (k + 1) * 2 + 1, none⟩ = some (.int .i64 ps[k + 1].2) := (hbw.cell (p := ⟨b, off + (k + 1) * 2 + 1, none⟩) hob).trans d1
      rw [show off + (k + 1) * 2 = off + 2 + k * 2 by omega] at d0' d1'
      have odb := older_of_cell d0'
      have i0 : (0 : Int) ≤ (k : Int) := by omega
      have i1 : (k : Int) < ((ps.length - 1 : Nat) : Int) := by omega
      clear c0 c1 d0 d1
      go_wp2_with (first | (go_at_call 101; refine Calls.mono (gw_at (xone_b _ _ _)) ?_; rintro e w1 ⟨rfl, q, rfl⟩) | (go_at_call 135; refine Calls.mono (gw_at (xbhull_b _ _ _ _ _ _ _ _ _)) ?_; rintro e w1 ⟨rfl, q, rfl⟩))
      refine wp_region_gw_tail 4 (by kernel_rfl) (by kernel_rfl) ?_
      simp only [List.take_succ_cons, List.take_zero, List.drop_succ_cons, List.drop_zero]
      repeat (go_big_quiet_step ((first | (go_at_call 101; exact gw_call (xone_b _ _ _)) | (go_at_call 135; exact gw_call (xbhull_b _ _ _ _ _ _ _ _ _)))))
      refine wpQuiet_nil ?_
      intro w1 hw1
      obtain ⟨q, rfl⟩ := hw1
      go_wp2_with (first | (go_at_call 101; refine Calls.mono (gw_at (xone_b _ _ _)) ?_; rintro e w1 ⟨rfl, q, rfl⟩) | (go_at_call 135; refine Calls.mono (gw_at (xbhull_b _ _ _ _ _ _ _ _ _)) ?_; rintro e w1 ⟨rfl, q, rfl⟩))
      refine ⟨⟨k + 1, by omega, by go_num, ?_, ?_, bBel⟩, by (try go_num); simp [intOf]; (try omega)⟩
      · rw [Bx.pts_succ (by omega) hlt]; exact (by apply blk_of; (repeat (first | with_reducible exact h5 | with_reducible apply blk_drew | with_reducible apply blk_gw | with_reducible apply blk_alloc | with_reducible apply blk_set | ((with_reducible apply blk_other); focus omega))); (first | rfl | simp))
      · exact (by apply blk_of; (repeat (first | with_reducible exact h2 | with_reducible apply blk_drew | with_reducible apply blk_gw | with_reducible apply blk_alloc | with_reducible apply blk_set | ((with_reducible apply blk_other); focus omega))); (first | rfl | simp))
    · have ek : k + 1 = ps.length := by omega
      have i1 : ¬ (k : Int) < ((ps.length - 1 : Nat) : Int) := by omega
      have et : ps.take (k + 1) = ps := by rw [ek]; exact List.take_length
      rw [et] at *
      clear c0 c1
      go_wp2_with (first | (go_at_call 101; refine Calls.mono (gw_at (xone_b _ _ _)) ?_; rintro e w1 ⟨rfl, q, rfl⟩) | (go_at_call 135; refine Calls.mono (gw_at (xbhull_b _ _ _ _ _ _ _ _ _)) ?_; rintro e w1 ⟨rfl, q, rfl⟩))
      exact bodyPost_ret (v := .tuple #[.agg #[.int .i64 (Bx.pts ps).x0, .int .i64 (Bx.pts ps).y0, .int .i64 (Bx.pts ps).x1, .int .i64 (Bx.pts ps).y1], .bool true]) (by simp [results, Tryz.results134, go_sem, ch2_0, ch2_1, ch2_2, ch2_3]) rfl ⟨rfl, bBel⟩

theorem xfp0_b (A : Option Addr) (cap : Nat) (w : World) : Calls Tryz.prog 134 #[.slice A 0 cap] w fun e w' => e = .returned (.tuple #[.agg #[.int .i64 0, .int .i64 0, .int .i64 0, .int .i64 0], .bool false]) ∧ Below w.heap.size w w' := by
  go_enter Tryz.func134, Tryz.ntmps134
  go_wp2_with (first | (go_at_call 101; refine Calls.mono (gw_at (xone_b _ _ _)) ?_; rintro e w1 ⟨rfl, q, rfl⟩) | (go_at_call 135; refine Calls.mono (gw_at (xbhull_b _ _ _ _ _ _ _ _ _)) ?_; rintro e w1 ⟨rfl, q, rfl⟩))
  repeat
    refine wp_region_gw_tail 4 (by kernel_rfl) (by kernel_rfl) ?_
    simp only [List.take_succ_cons, List.take_zero, List.drop_succ_cons, List.drop_zero]
    repeat (go_big_quiet_step ((first | (go_at_call 101; exact gw_call (xone_b _ _ _)) | (go_at_call 135; exact gw_call (xbhull_b _ _ _ _ _ _ _ _ _)))))
    refine wpQuiet_nil ?_
    intro w1 hw1
    obtain ⟨q, rfl⟩ := hw1
    go_wp2_with (first | (go_at_call 101; refine Calls.mono (gw_at (xone_b _ _ _)) ?_; rintro e w1 ⟨rfl, q, rfl⟩) | (go_at_call 135; refine Calls.mono (gw_at (xbhull_b _ _ _ _ _ _ _ _ _)) ?_; rintro e w1 ⟨rfl, q, rfl⟩))
  exact bodyPost_ret (v := .tuple #[.agg #[.int .i64 0, .int .i64 0, .int .i64 0, .int .i64 0], .bool false]) (by simp [results, Tryz.results134, go_sem]) rfl ⟨rfl, bBel⟩

theorem xfp_b (A : Option Addr) (cap : Nat) (ps : List (Int × Int)) (w : World) (h : Pts w A ps) (hl : ps.length ≤ 4611686018427387904) (hk : ps.length ≤ cap) : Calls Tryz.prog 134 #[.slice A ps.length cap] w fun e w' => e = .returned (.tuple #[.agg #[.int .i64 (Bx.pts ps).x0, .int .i64 (Bx.pts ps).y0, .int .i64 (Bx.pts ps).x1, .int .i64 (Bx.pts ps).y1], .bool (decide (0 < ps.length))]) ∧ Below w.heap.size w w' := by
  by_cases h0 : 0 < ps.length
  · obtain ⟨b, off, rfl, hc⟩ := h.open h0
    rw [decide_eq_true h0]
    exact xfp1_b b off cap ps w h0 hl hk hc
  · obtain rfl : ps = [] := List.eq_nil_of_length_eq_zero (by omega)
    exact xfp0_b A cap w

theorem xfp2_b (ax ay bx b_y : Int) (b cap : Nat) (t : TypeId) (w : World) (h : blk w b #[.int .i64 ax, .int .i64 ay, .int .i64 bx, .int .i64 b_y] t) (hk : 2 ≤ cap) : Calls Tryz.prog 134 #[.slice (some ⟨b, 0, none⟩) 2 cap] w fun e w' => e = .returned (.tuple #[.agg #[.int .i64 (min (sat ax) (sat bx)), .int .i64 (min (sat ay) (sat b_y)), .int .i64 (max (sat ax) (sat bx)), .int .i64 (max (sat ay) (sat b_y))], .bool true]) ∧ Below w.heap.size w w' := by
  have k := xfp1_b b 0 cap [(ax, ay), (bx, b_y)] w (by simp) (by simp) (by simpa using hk) (fun i hi => by
    match i, hi with
    | 0, _ => exact ⟨blk_cell h 0, blk_cell h 1⟩
    | 1, _ => exact ⟨blk_cell h 2, blk_cell h 3⟩
    | n + 2, h => simp at h; omega)
  simp only [Bx.pts, List.foldl, Bx.one, Bx.step] at k
  exact k

end Go.Proofs.YtdmcdicphohlfaaGreat
