/- Contracts of package aabb and of its reference: each returns what the Lean functions of the same meaning give, and nothing that existed has changed. No conditions. -/
import Derived.Test.YtgghkgihlfkmeaaFixBl
import Derived.Test.YtgghkgihlfkmeaaBox
import Derived.Test.YtgghkgihlfkmeaaCor
import Derived.Test.YtgghkgihlfkmeaaBx
import Derived.Test.YtgghkgihlfkmeaaFixV
import Derived.Outline
set_option linter.unusedVariables false
namespace Go.Proofs.Ytgghkgihlfkmeaa
open Go.RowKit Fx

theorem rxsat_b (x y : Int) (w : World) : Calls Try.prog 30 #[.agg #[.int .i64 x, .int .i64 y]] w fun e w' => e = .returned (.agg #[.int .i64 (sat x), .int .i64 (sat y)]) ∧ Below w.heap.size w w' := by
  go_enter Try.func30, Try.ntmps30
  go_wp2_with (first | (go_at_call 40; refine Calls.mono (gw_at (rsat_b _ _)) ?_; rintro e w1 ⟨rfl, q, rfl⟩))
  repeat
    refine wp_region_gw_tail 7 (by kernel_rfl) (by kernel_rfl) ?_
    simp only [List.take_succ_cons, List.take_zero, List.drop_succ_cons, List.drop_zero]
    repeat (go_big_quiet_step ((first | (go_at_call 40; exact gw_call (rsat_b _ _)))))
    refine wpQuiet_nil ?_
    intro w1 hw1
    obtain ⟨q, rfl⟩ := hw1
    go_wp2_with (first | (go_at_call 40; refine Calls.mono (gw_at (rsat_b _ _)) ?_; rintro e w1 ⟨rfl, q, rfl⟩))
  exact bodyPost_ret (v := .agg #[.int .i64 (sat x), .int .i64 (sat y)]) (by simp [results, Try.results30, go_sem]; try (first | with_reducible rfl | exact ⟨rfl, rfl⟩ | exact ⟨rfl, rfl, rfl⟩ | exact ⟨rfl, rfl, rfl, rfl⟩ | exact ⟨rfl, rfl, rfl, rfl, rfl⟩ | exact ⟨rfl, rfl, rfl, rfl, rfl, rfl⟩ | rfl)) rfl ⟨rfl, (by repeat (first | with_reducible exact Below.refl _ _ | with_reducible assumption | refine bgw ?_ (by first | (simp; done) | (simp; omega) | omega) _ | refine Below.setCell ?_ (by first | exact Nat.le_of_not_lt (by assumption) | (simp; done) | (simp; omega) | omega) _ | refine Below.alloc ?_ (by first | (simp; done) | (simp; omega) | omega) _ | refine Below.drew ?_))⟩

theorem rxval_b (x0 y0 x1 y1 : Int) (w : World) : Calls Try.prog 13 #[.agg #[.int .i64 x0, .int .i64 y0, .int .i64 x1, .int .i64 y1]] w fun e w' => e = .returned (.bool (val4 x0 y0 x1 y1)) ∧ Below w.heap.size w w' := by
  unfold val4
  have h := Bx.val_cases ⟨x0, y0, x1, y1⟩
  dsimp only at h
  rcases h with ⟨e, h1⟩ | ⟨e, h1, h2⟩ | ⟨e, h1, h2, h3⟩ | ⟨e, h1, h2, h3, h4⟩ | ⟨e, h1, h2, h3, h4, h5⟩ | ⟨e, h1, h2, h3, h4, h5, h6⟩ | ⟨e, h1, h2, h3, h4, h5, h6⟩
  all_goals
    rw [e]
    clear e
    go_enter Try.func13, Try.ntmps13
    go_wp2_with (first | (go_at_call 30; refine Calls.mono (gw_at (rxsat_b _ _ _)) ?_; rintro e w1 ⟨rfl, q, rfl⟩))
    repeat
      refine wp_region_gw (by kernel_rfl) (by kernel_rfl) ?_
      repeat (go_big_quiet_step ((first | (go_at_call 30; exact gw_call (rxsat_b _ _ _)))))
      refine wpQuiet_nil ?_
      intro w1 hw1
      obtain ⟨q, rfl⟩ := hw1
      go_wp2_with (first | (go_at_call 30; refine Calls.mono (gw_at (rxsat_b _ _ _)) ?_; rintro e w1 ⟨rfl, q, rfl⟩))
    go_ret
    exact ⟨rfl, (by repeat (first | with_reducible exact Below.refl _ _ | with_reducible assumption | refine bgw ?_ (by first | (simp; done) | (simp; omega) | omega) _ | refine Below.setCell ?_ (by first | exact Nat.le_of_not_lt (by assumption) | (simp; done) | (simp; omega) | omega) _ | refine Below.alloc ?_ (by first | (simp; done) | (simp; omega) | omega) _ | refine Below.drew ?_))⟩

theorem rfp0_b (A : Option Addr) (cap : Nat) (w : World) : Calls Try.prog 25 #[.slice A 0 cap] w fun e w' => e = .returned (.tuple #[.agg #[.int .i64 0, .int .i64 0, .int .i64 0, .int .i64 0], .bool false]) ∧ Below w.heap.size w w' := by
  go_enter Try.func25, Try.ntmps25
  go_wp2_with (first | (go_at_call 30; refine Calls.mono (gw_at (rxsat_b _ _ _)) ?_; rintro e w1 ⟨rfl, q, rfl⟩))
  exact bodyPost_ret (v := .tuple #[.agg #[.int .i64 0, .int .i64 0, .int .i64 0, .int .i64 0], .bool false]) (by simp [results, Try.results25, go_sem]) rfl ⟨rfl, (by repeat (first | with_reducible exact Below.refl _ _ | with_reducible assumption | refine bgw ?_ (by first | (simp; done) | (simp; omega) | omega) _ | refine Below.setCell ?_ (by first | exact Nat.le_of_not_lt (by assumption) | (simp; done) | (simp; omega) | omega) _ | refine Below.alloc ?_ (by first | (simp; done) | (simp; omega) | omega) _ | refine Below.drew ?_))⟩

theorem rfp1_b (b off cap : Nat) (ps : List (Int × Int)) (w : World) (hn : 0 < ps.length) (hl : ps.length ≤ 4611686018427387904) (hc : ∀ i (h : i < ps.length), w.cell? ⟨b, off + i * 2, none⟩ = some (.int .i64 ps[i].1) ∧ w.cell? ⟨b, off + i * 2 + 1, none⟩ = some (.int .i64 ps[i].2)) : Calls Try.prog 25 #[.slice (some ⟨b, off, none⟩) ps.length cap] w fun e w' => e = .returned (.tuple #[.agg #[.int .i64 (Bx.pts ps).x0, .int .i64 (Bx.pts ps).y0, .int .i64 (Bx.pts ps).x1, .int .i64 (Bx.pts ps).y1], .bool true]) ∧ Below w.heap.size w w' := by
  obtain ⟨c0, c1⟩ := hc 0 hn
  have ob := older_of_cell c0
  have hn' : (0 : Int) < (ps.length : Int) := by omega
  simp only [Nat.zero_mul, Nat.add_zero] at c0 c1
  go_enter Try.func25, Try.ntmps25
  go_wp2_with (first | (go_at_call 30; refine Calls.mono (gw_at (rxsat_b _ _ _)) ?_; rintro e w1 ⟨rfl, q, rfl⟩))
  have e1 : Bx.pts (ps.take 1) = Bx.one ps[0] := Bx.pts_one hn
  have g5 : w.heap.size < w.heap.size + 1 + q.os.size + 1 := by omega
  generalize hB5 : w.heap.size + 1 + q.os.size + 1 = B5 at *
  go_loopw [6] (fun i wr => ∃ k : Nat, 1 ≤ k ∧ k ≤ ps.length ∧ i = .int .i64 k ∧ blk wr B5 #[.int .i64 (Bx.pts (ps.take k)).x0, .int .i64 (Bx.pts (ps.take k)).y0, .int .i64 (Bx.pts (ps.take k)).x1, .int .i64 (Bx.pts (ps.take k)).y1] 25 ∧
      blk wr w.heap.size #[.int .i64 0, .int .i64 0, .int .i64 0, .int .i64 0] 25 ∧ Below w.heap.size w wr)
    (fun i _ => (ps.length - intOf i).toNat)
  case atStart =>
    refine ⟨1, by omega, by omega, rfl, ?_, ?_, (by repeat (first | with_reducible exact Below.refl _ _ | with_reducible assumption | refine bgw ?_ (by first | (simp; done) | (simp; omega) | omega) _ | refine Below.setCell ?_ (by first | exact Nat.le_of_not_lt (by assumption) | (simp; done) | (simp; omega) | omega) _ | refine Below.alloc ?_ (by first | (simp; done) | (simp; omega) | omega) _ | refine Below.drew ?_))⟩
    · rw [e1]; exact blk_at (by simp; omega)
    · exact blk_alloc (blk_alloc (blk_gw (blk_new _ _ _)))
  case round =>
    obtain ⟨k, k1, k2, rfl, h5, h2, hbw⟩ := hrel
    have oh5 := blk_older h5
    have ch5_0 : _ = some _ := blk_cell h5 0
    have ch5_1 : _ = some _ := blk_cell h5 1
    have ch5_2 : _ = some _ := blk_cell h5 2
    have ch5_3 : _ = some _ := blk_cell h5 3
    have fh5_0 := blk_free h5 0
    have fh5_1 := blk_free h5 1
    have fh5_2 := blk_free h5 2
    have fh5_3 := blk_free h5 3
    have oh2 := blk_older h2
    have ch2_0 : _ = some _ := blk_cell h2 0
    have ch2_1 : _ = some _ := blk_cell h2 1
    have ch2_2 : _ = some _ := blk_cell h2 2
    have ch2_3 : _ = some _ := blk_cell h2 3
    have fh2_0 := blk_free h2 0
    have fh2_1 := blk_free h2 1
    have fh2_2 := blk_free h2 2
    have fh2_3 := blk_free h2 3
    have hsz := hbw.size
    by_cases hlt : k < ps.length
    · obtain ⟨d0, d1⟩ := hc k hlt
      have hob := World.block_lt_of_cell? w ⟨b, off + k * 2, none⟩ d0
      have d0' : wr.cell? ⟨b, off + k * 2, none⟩ = some (.int .i64 ps[k].1) := (hbw.cell (p := ⟨b, off + k * 2, none⟩) hob).trans d0
      have d1' : wr.cell? ⟨b, off + k * 2 + 1, none⟩ = some (.int .i64 ps[k].2) := (hbw.cell (p := ⟨b, off + k * 2 + 1, none⟩) hob).trans d1
      have odb := older_of_cell d0'
      have i0 : (0 : Int) ≤ (k : Int) := by omega
      have i1 : (k : Int) < (ps.length : Int) := by omega
      clear c0 c1 d0 d1
      go_wp2_with (first | (go_at_call 30; refine Calls.mono (gw_at (rxsat_b _ _ _)) ?_; rintro e w1 ⟨rfl, q, rfl⟩))
      refine ⟨⟨k + 1, by omega, by omega, by go_num, ?_, ?_, (by repeat (first | with_reducible exact Below.refl _ _ | with_reducible assumption | refine bgw ?_ (by first | (simp; done) | (simp; omega) | omega) _ | refine Below.setCell ?_ (by first | exact Nat.le_of_not_lt (by assumption) | (simp; done) | (simp; omega) | omega) _ | refine Below.alloc ?_ (by first | (simp; done) | (simp; omega) | omega) _ | refine Below.drew ?_))⟩, by (try go_num); simp [intOf]; (try omega)⟩
      · rw [Bx.pts_succ k1 hlt]; exact (by apply blk_of; (repeat (first | with_reducible exact h5 | with_reducible apply blk_drew | with_reducible apply blk_gw | with_reducible apply blk_alloc | with_reducible apply blk_set | ((with_reducible apply blk_other); focus omega))); (first | rfl | simp))
      · exact (by apply blk_of; (repeat (first | with_reducible exact h2 | with_reducible apply blk_drew | with_reducible apply blk_gw | with_reducible apply blk_alloc | with_reducible apply blk_set | ((with_reducible apply blk_other); focus omega))); (first | rfl | simp))
    · have ek : k = ps.length := by omega
      have i1 : ¬ (k : Int) < (ps.length : Int) := by omega
      have et : ps.take k = ps := by rw [ek]; exact List.take_length
      rw [et] at *
      clear c0 c1
      go_wp2_with (first | (go_at_call 30; refine Calls.mono (gw_at (rxsat_b _ _ _)) ?_; rintro e w1 ⟨rfl, q, rfl⟩))
      exact bodyPost_ret (v := .tuple #[.agg #[.int .i64 (Bx.pts ps).x0, .int .i64 (Bx.pts ps).y0, .int .i64 (Bx.pts ps).x1, .int .i64 (Bx.pts ps).y1], .bool true]) (by simp [results, Try.results25, go_sem, ch2_0, ch2_1, ch2_2, ch2_3]) rfl ⟨rfl, (by repeat (first | with_reducible exact Below.refl _ _ | with_reducible assumption | refine bgw ?_ (by first | (simp; done) | (simp; omega) | omega) _ | refine Below.setCell ?_ (by first | exact Nat.le_of_not_lt (by assumption) | (simp; done) | (simp; omega) | omega) _ | refine Below.alloc ?_ (by first | (simp; done) | (simp; omega) | omega) _ | refine Below.drew ?_))⟩

theorem rfp2_b (ax ay bx b_y : Int) (b cap : Nat) (t : TypeId) (w : World) (h : blk w b #[.int .i64 ax, .int .i64 ay, .int .i64 bx, .int .i64 b_y] t) : Calls Try.prog 25 #[.slice (some ⟨b, 0, none⟩) 2 cap] w fun e w' => e = .returned (.tuple #[.agg #[.int .i64 (min (sat ax) (sat bx)), .int .i64 (min (sat ay) (sat b_y)), .int .i64 (max (sat ax) (sat bx)), .int .i64 (max (sat ay) (sat b_y))], .bool true]) ∧ Below w.heap.size w w' := by
  have k := rfp1_b b 0 cap [(ax, ay), (bx, b_y)] w (by simp) (by simp) (fun i hi => by
    match i, hi with
    | 0, _ => exact ⟨blk_cell h 0, blk_cell h 1⟩
    | 1, _ => exact ⟨blk_cell h 2, blk_cell h 3⟩
    | n + 2, h => simp at h; omega)
  simp only [Bx.pts, List.foldl, Bx.one, Bx.step] at k
  exact k

theorem rfp4_b (ax ay bx b_y cx cy dx dy : Int) (b cap : Nat) (t : TypeId) (w : World) (h : blk w b #[.int .i64 ax, .int .i64 ay, .int .i64 bx, .int .i64 b_y, .int .i64 cx, .int .i64 cy, .int .i64 dx, .int .i64 dy] t) : Calls Try.prog 25 #[.slice (some ⟨b, 0, none⟩) 4 cap] w fun e w' => e = .returned (.tuple #[.agg #[.int .i64 (min (min (min (sat ax) (sat bx)) (sat cx)) (sat dx)), .int .i64 (min (min (min (sat ay) (sat b_y)) (sat cy)) (sat dy)), .int .i64 (max (max (max (sat ax) (sat bx)) (sat cx)) (sat dx)), .int .i64 (max (max (max (sat ay) (sat b_y)) (sat cy)) (sat dy))], .bool true]) ∧ Below w.heap.size w w' := by
  have k := rfp1_b b 0 cap [(ax, ay), (bx, b_y), (cx, cy), (dx, dy)] w (by simp) (by simp) (fun i hi => by
    match i, hi with
    | 0, _ => exact ⟨blk_cell h 0, blk_cell h 1⟩
    | 1, _ => exact ⟨blk_cell h 2, blk_cell h 3⟩
    | 2, _ => exact ⟨blk_cell h 4, blk_cell h 5⟩
    | 3, _ => exact ⟨blk_cell h 6, blk_cell h 7⟩
    | n + 4, h => simp at h; omega)
  simp only [Bx.pts, List.foldl, Bx.one, Bx.step] at k
  exact k

set_option maxHeartbeats 800000 in
theorem rxuni_b (ax0 ay0 ax1 ay1 bx0 by0 bx1 by1 : Int) (w : World) : Calls Try.prog 15 #[.agg #[.int .i64 ax0, .int .i64 ay0, .int .i64 ax1, .int .i64 ay1], .agg #[.int .i64 bx0, .int .i64 by0, .int .i64 bx1, .int .i64 by1]] w fun e w' => e = .returned (.agg #[.int .i64 (Bx.uni ⟨ax0, ay0, ax1, ay1⟩ ⟨bx0, by0, bx1, by1⟩).x0, .int .i64 (Bx.uni ⟨ax0, ay0, ax1, ay1⟩ ⟨bx0, by0, bx1, by1⟩).y0, .int .i64 (Bx.uni ⟨ax0, ay0, ax1, ay1⟩ ⟨bx0, by0, bx1, by1⟩).x1, .int .i64 (Bx.uni ⟨ax0, ay0, ax1, ay1⟩ ⟨bx0, by0, bx1, by1⟩).y1]) ∧ Below w.heap.size w w' := by
  cases h1 : val4 ax0 ay0 ax1 ay1 <;> cases h2 : val4 bx0 by0 bx1 by1
  focus
    rw [show Bx.uni ⟨ax0, ay0, ax1, ay1⟩ ⟨bx0, by0, bx1, by1⟩ = Bx.zero from by simp [Bx.uni, val4_eq, h1, h2]]
    go_enter Try.func15, Try.ntmps15
    go_wp2_with (first | (go_at_call 13; (first | (refine Calls.mono (gw_at (boolIs (rxval_b _ _ _ _ _) (b := true) (by assumption))) ?_; rintro e w1 ⟨rfl, q, rfl⟩) | (refine Calls.mono (gw_at (boolIs (rxval_b _ _ _ _ _) (b := false) (by assumption))) ?_; rintro e w1 ⟨rfl, q, rfl⟩) | (refine Calls.mono (gw_at (rxval_b _ _ _ _ _)) ?_; rintro e w1 ⟨rfl, q, rfl⟩))) | (go_at_call 25; (with_reducible show Calls _ _ (#[Value.slice _ 2 _]) _ _); refine Calls.mono (gw_at (rfp2_b _ _ _ _ _ _ _ _ (by first | ((with_reducible refine blk_at ?_); simp; done) | ((with_reducible refine blk_gw (blk_at ?_)); simp; done) | ((with_reducible refine blk_alloc (blk_at ?_)); simp; done) | ((with_reducible refine blk_gw (blk_alloc (blk_at ?_))); simp; done) | with_reducible assumption))) ?_; rintro e w1 ⟨rfl, q, rfl⟩) | (go_at_call 25; (with_reducible show Calls _ _ (#[Value.slice _ 4 _]) _ _); refine Calls.mono (gw_at (rfp4_b _ _ _ _ _ _ _ _ _ _ _ _ (by first | ((with_reducible refine blk_at ?_); simp; done) | ((with_reducible refine blk_gw (blk_at ?_)); simp; done) | ((with_reducible refine blk_alloc (blk_at ?_)); simp; done) | ((with_reducible refine blk_gw (blk_alloc (blk_at ?_))); simp; done) | with_reducible assumption))) ?_; rintro e w1 ⟨rfl, q, rfl⟩) | (go_at_call 25; (with_reducible show Calls _ _ (#[Value.slice _ (List.length _) _]) _ _); refine Calls.mono (gw_at (rfp_b _ _ _ _ (Pts.to (by with_reducible assumption) (by repeat (first | with_reducible exact Below.refl _ _ | with_reducible assumption | refine bgw ?_ (by first | (simp; done) | (simp; omega) | omega) _ | refine Below.setCell ?_ (by first | exact Nat.le_of_not_lt (by assumption) | (simp; done) | (simp; omega) | omega) _ | refine Below.alloc ?_ (by first | (simp; done) | (simp; omega) | omega) _ | refine Below.drew ?_))) (by with_reducible assumption))) ?_; rintro e w1 ⟨rfl, q, rfl⟩))
    exact bodyPost_ret (v := .agg #[.int .i64 0, .int .i64 0, .int .i64 0, .int .i64 0]) (by simp [results, Try.results15, go_sem]; try (first | with_reducible rfl | exact ⟨rfl, rfl⟩ | exact ⟨rfl, rfl, rfl⟩ | exact ⟨rfl, rfl, rfl, rfl⟩ | exact ⟨rfl, rfl, rfl, rfl, rfl⟩ | exact ⟨rfl, rfl, rfl, rfl, rfl, rfl⟩ | rfl)) rfl ⟨rfl, (by repeat (first | with_reducible exact Below.refl _ _ | with_reducible assumption | refine bgw ?_ (by first | (simp; done) | (simp; omega) | omega) _ | refine Below.setCell ?_ (by first | exact Nat.le_of_not_lt (by assumption) | (simp; done) | (simp; omega) | omega) _ | refine Below.alloc ?_ (by first | (simp; done) | (simp; omega) | omega) _ | refine Below.drew ?_))⟩
  focus
    rw [show Bx.uni ⟨ax0, ay0, ax1, ay1⟩ ⟨bx0, by0, bx1, by1⟩ = ⟨bx0, by0, bx1, by1⟩ from by simp [Bx.uni, val4_eq, h1, h2]]
    go_enter Try.func15, Try.ntmps15
    go_wp2_with (first | (go_at_call 13; (first | (refine Calls.mono (gw_at (boolIs (rxval_b _ _ _ _ _) (b := true) (by assumption))) ?_; rintro e w1 ⟨rfl, q, rfl⟩) | (refine Calls.mono (gw_at (boolIs (rxval_b _ _ _ _ _) (b := false) (by assumption))) ?_; rintro e w1 ⟨rfl, q, rfl⟩) | (refine Calls.mono (gw_at (rxval_b _ _ _ _ _)) ?_; rintro e w1 ⟨rfl, q, rfl⟩))) | (go_at_call 25; (with_reducible show Calls _ _ (#[Value.slice _ 2 _]) _ _); refine Calls.mono (gw_at (rfp2_b _ _ _ _ _ _ _ _ (by first | ((with_reducible refine blk_at ?_); simp; done) | ((with_reducible refine blk_gw (blk_at ?_)); simp; done) | ((with_reducible refine blk_alloc (blk_at ?_)); simp; done) | ((with_reducible refine blk_gw (blk_alloc (blk_at ?_))); simp; done) | with_reducible assumption))) ?_; rintro e w1 ⟨rfl, q, rfl⟩) | (go_at_call 25; (with_reducible show Calls _ _ (#[Value.slice _ 4 _]) _ _); refine Calls.mono (gw_at (rfp4_b _ _ _ _ _ _ _ _ _ _ _ _ (by first | ((with_reducible refine blk_at ?_); simp; done) | ((with_reducible refine blk_gw (blk_at ?_)); simp; done) | ((with_reducible refine blk_alloc (blk_at ?_)); simp; done) | ((with_reducible refine blk_gw (blk_alloc (blk_at ?_))); simp; done) | with_reducible assumption))) ?_; rintro e w1 ⟨rfl, q, rfl⟩) | (go_at_call 25; (with_reducible show Calls _ _ (#[Value.slice _ (List.length _) _]) _ _); refine Calls.mono (gw_at (rfp_b _ _ _ _ (Pts.to (by with_reducible assumption) (by repeat (first | with_reducible exact Below.refl _ _ | with_reducible assumption | refine bgw ?_ (by first | (simp; done) | (simp; omega) | omega) _ | refine Below.setCell ?_ (by first | exact Nat.le_of_not_lt (by assumption) | (simp; done) | (simp; omega) | omega) _ | refine Below.alloc ?_ (by first | (simp; done) | (simp; omega) | omega) _ | refine Below.drew ?_))) (by with_reducible assumption))) ?_; rintro e w1 ⟨rfl, q, rfl⟩))
    exact bodyPost_ret (v := .agg #[.int .i64 bx0, .int .i64 by0, .int .i64 bx1, .int .i64 by1]) (by simp [results, Try.results15, go_sem]; try (first | with_reducible rfl | exact ⟨rfl, rfl⟩ | exact ⟨rfl, rfl, rfl⟩ | exact ⟨rfl, rfl, rfl, rfl⟩ | exact ⟨rfl, rfl, rfl, rfl, rfl⟩ | exact ⟨rfl, rfl, rfl, rfl, rfl, rfl⟩ | rfl)) rfl ⟨rfl, (by repeat (first | with_reducible exact Below.refl _ _ | with_reducible assumption | refine bgw ?_ (by first | (simp; done) | (simp; omega) | omega) _ | refine Below.setCell ?_ (by first | exact Nat.le_of_not_lt (by assumption) | (simp; done) | (simp; omega) | omega) _ | refine Below.alloc ?_ (by first | (simp; done) | (simp; omega) | omega) _ | refine Below.drew ?_))⟩
  focus
    rw [show Bx.uni ⟨ax0, ay0, ax1, ay1⟩ ⟨bx0, by0, bx1, by1⟩ = ⟨ax0, ay0, ax1, ay1⟩ from by simp [Bx.uni, val4_eq, h1, h2]]
    go_enter Try.func15, Try.ntmps15
    go_wp2_with (first | (go_at_call 13; (first | (refine Calls.mono (gw_at (boolIs (rxval_b _ _ _ _ _) (b := true) (by assumption))) ?_; rintro e w1 ⟨rfl, q, rfl⟩) | (refine Calls.mono (gw_at (boolIs (rxval_b _ _ _ _ _) (b := false) (by assumption))) ?_; rintro e w1 ⟨rfl, q, rfl⟩) | (refine Calls.mono (gw_at (rxval_b _ _ _ _ _)) ?_; rintro e w1 ⟨rfl, q, rfl⟩))) | (go_at_call 25; (with_reducible show Calls _ _ (#[Value.slice _ 2 _]) _ _); refine Calls.mono (gw_at (rfp2_b _ _ _ _ _ _ _ _ (by first | ((with_reducible refine blk_at ?_); simp; done) | ((with_reducible refine blk_gw (blk_at ?_)); simp; done) | ((with_reducible refine blk_alloc (blk_at ?_)); simp; done) | ((with_reducible refine blk_gw (blk_alloc (blk_at ?_))); simp; done) | with_reducible assumption))) ?_; rintro e w1 ⟨rfl, q, rfl⟩) | (go_at_call 25; (with_reducible show Calls _ _ (#[Value.slice _ 4 _]) _ _); refine Calls.mono (gw_at (rfp4_b _ _ _ _ _ _ _ _ _ _ _ _ (by first | ((with_reducible refine blk_at ?_); simp; done) | ((with_reducible refine blk_gw (blk_at ?_)); simp; done) | ((with_reducible refine blk_alloc (blk_at ?_)); simp; done) | ((with_reducible refine blk_gw (blk_alloc (blk_at ?_))); simp; done) | with_reducible assumption))) ?_; rintro e w1 ⟨rfl, q, rfl⟩) | (go_at_call 25; (with_reducible show Calls _ _ (#[Value.slice _ (List.length _) _]) _ _); refine Calls.mono (gw_at (rfp_b _ _ _ _ (Pts.to (by with_reducible assumption) (by repeat (first | with_reducible exact Below.refl _ _ | with_reducible assumption | refine bgw ?_ (by first | (simp; done) | (simp; omega) | omega) _ | refine Below.setCell ?_ (by first | exact Nat.le_of_not_lt (by assumption) | (simp; done) | (simp; omega) | omega) _ | refine Below.alloc ?_ (by first | (simp; done) | (simp; omega) | omega) _ | refine Below.drew ?_))) (by with_reducible assumption))) ?_; rintro e w1 ⟨rfl, q, rfl⟩))
    exact bodyPost_ret (v := .agg #[.int .i64 ax0, .int .i64 ay0, .int .i64 ax1, .int .i64 ay1]) (by simp [results, Try.results15, go_sem]; try (first | with_reducible rfl | exact ⟨rfl, rfl⟩ | exact ⟨rfl, rfl, rfl⟩ | exact ⟨rfl, rfl, rfl, rfl⟩ | exact ⟨rfl, rfl, rfl, rfl, rfl⟩ | exact ⟨rfl, rfl, rfl, rfl, rfl, rfl⟩ | rfl)) rfl ⟨rfl, (by repeat (first | with_reducible exact Below.refl _ _ | with_reducible assumption | refine bgw ?_ (by first | (simp; done) | (simp; omega) | omega) _ | refine Below.setCell ?_ (by first | exact Nat.le_of_not_lt (by assumption) | (simp; done) | (simp; omega) | omega) _ | refine Below.alloc ?_ (by first | (simp; done) | (simp; omega) | omega) _ | refine Below.drew ?_))⟩
  rw [Bx.uni4 h1 h2]
  go_enter Try.func15, Try.ntmps15
  go_wp2_with (first | (go_at_call 13; (first | (refine Calls.mono (gw_at (boolIs (rxval_b _ _ _ _ _) (b := true) (by assumption))) ?_; rintro e w1 ⟨rfl, q, rfl⟩) | (refine Calls.mono (gw_at (boolIs (rxval_b _ _ _ _ _) (b := false) (by assumption))) ?_; rintro e w1 ⟨rfl, q, rfl⟩) | (refine Calls.mono (gw_at (rxval_b _ _ _ _ _)) ?_; rintro e w1 ⟨rfl, q, rfl⟩))) | (go_at_call 25; (with_reducible show Calls _ _ (#[Value.slice _ 2 _]) _ _); refine Calls.mono (gw_at (rfp2_b _ _ _ _ _ _ _ _ (by first | ((with_reducible refine blk_at ?_); simp; done) | ((with_reducible refine blk_gw (blk_at ?_)); simp; done) | ((with_reducible refine blk_alloc (blk_at ?_)); simp; done) | ((with_reducible refine blk_gw (blk_alloc (blk_at ?_))); simp; done) | with_reducible assumption))) ?_; rintro e w1 ⟨rfl, q, rfl⟩) | (go_at_call 25; (with_reducible show Calls _ _ (#[Value.slice _ 4 _]) _ _); refine Calls.mono (gw_at (rfp4_b _ _ _ _ _ _ _ _ _ _ _ _ (by first | ((with_reducible refine blk_at ?_); simp; done) | ((with_reducible refine blk_gw (blk_at ?_)); simp; done) | ((with_reducible refine blk_alloc (blk_at ?_)); simp; done) | ((with_reducible refine blk_gw (blk_alloc (blk_at ?_))); simp; done) | with_reducible assumption))) ?_; rintro e w1 ⟨rfl, q, rfl⟩) | (go_at_call 25; (with_reducible show Calls _ _ (#[Value.slice _ (List.length _) _]) _ _); refine Calls.mono (gw_at (rfp_b _ _ _ _ (Pts.to (by with_reducible assumption) (by repeat (first | with_reducible exact Below.refl _ _ | with_reducible assumption | refine bgw ?_ (by first | (simp; done) | (simp; omega) | omega) _ | refine Below.setCell ?_ (by first | exact Nat.le_of_not_lt (by assumption) | (simp; done) | (simp; omega) | omega) _ | refine Below.alloc ?_ (by first | (simp; done) | (simp; omega) | omega) _ | refine Below.drew ?_))) (by with_reducible assumption))) ?_; rintro e w1 ⟨rfl, q, rfl⟩))
  exact bodyPost_ret (v := .agg #[.int .i64 (min (min (min (sat ax0) (sat ax1)) (sat bx0)) (sat bx1)), .int .i64 (min (min (min (sat ay0) (sat ay1)) (sat by0)) (sat by1)), .int .i64 (max (max (max (sat ax0) (sat ax1)) (sat bx0)) (sat bx1)), .int .i64 (max (max (max (sat ay0) (sat ay1)) (sat by0)) (sat by1))]) (by simp [results, Try.results15, go_sem]; try (first | with_reducible rfl | exact ⟨rfl, rfl⟩ | exact ⟨rfl, rfl, rfl⟩ | exact ⟨rfl, rfl, rfl, rfl⟩ | exact ⟨rfl, rfl, rfl, rfl, rfl⟩ | exact ⟨rfl, rfl, rfl, rfl, rfl, rfl⟩ | rfl)) rfl ⟨rfl, (by repeat (first | with_reducible exact Below.refl _ _ | with_reducible assumption | refine bgw ?_ (by first | (simp; done) | (simp; omega) | omega) _ | refine Below.setCell ?_ (by first | exact Nat.le_of_not_lt (by assumption) | (simp; done) | (simp; omega) | omega) _ | refine Below.alloc ?_ (by first | (simp; done) | (simp; omega) | omega) _ | refine Below.drew ?_))⟩

theorem rxovl_b (ax0 ay0 ax1 ay1 bx0 by0 bx1 by1 : Int) (w : World) : Calls Try.prog 16 #[.agg #[.int .i64 ax0, .int .i64 ay0, .int .i64 ax1, .int .i64 ay1], .agg #[.int .i64 bx0, .int .i64 by0, .int .i64 bx1, .int .i64 by1]] w fun e w' => e = .returned (.bool (ovl8 ax0 ay0 ax1 ay1 bx0 by0 bx1 by1)) ∧ Below w.heap.size w w' := by
  cases h1 : val4 ax0 ay0 ax1 ay1
  focus
    go_enter Try.func16, Try.ntmps16
    go_wp2_with (first | (go_at_call 13; (first | (refine Calls.mono (gw_at (boolIs (rxval_b _ _ _ _ _) (b := true) (by assumption))) ?_; rintro e w1 ⟨rfl, q, rfl⟩) | (refine Calls.mono (gw_at (boolIs (rxval_b _ _ _ _ _) (b := false) (by assumption))) ?_; rintro e w1 ⟨rfl, q, rfl⟩) | (refine Calls.mono (gw_at (rxval_b _ _ _ _ _)) ?_; rintro e w1 ⟨rfl, q, rfl⟩))))
    all_goals (go_ret; refine ⟨?_, (by repeat (first | with_reducible exact Below.refl _ _ | with_reducible assumption | refine bgw ?_ (by first | (simp; done) | (simp; omega) | omega) _ | refine Below.setCell ?_ (by first | exact Nat.le_of_not_lt (by assumption) | (simp; done) | (simp; omega) | omega) _ | refine Below.alloc ?_ (by first | (simp; done) | (simp; omega) | omega) _ | refine Below.drew ?_))⟩; first | rfl | (simp [ovl8, Bx.ovl, val4_eq, h1]; done) | (simp [ovl8, Bx.ovl, val4_eq, h1]; omega) | (simp [ovl8, Bx.ovl, val4_eq, h1]; rw [Bool.eq_iff_iff]; first | (simp; done) | (simp; omega)))
  cases h2 : val4 bx0 by0 bx1 by1
  focus
    go_enter Try.func16, Try.ntmps16
    go_wp2_with (first | (go_at_call 13; (first | (refine Calls.mono (gw_at (boolIs (rxval_b _ _ _ _ _) (b := true) (by assumption))) ?_; rintro e w1 ⟨rfl, q, rfl⟩) | (refine Calls.mono (gw_at (boolIs (rxval_b _ _ _ _ _) (b := false) (by assumption))) ?_; rintro e w1 ⟨rfl, q, rfl⟩) | (refine Calls.mono (gw_at (rxval_b _ _ _ _ _)) ?_; rintro e w1 ⟨rfl, q, rfl⟩))))
    all_goals (go_ret; refine ⟨?_, (by repeat (first | with_reducible exact Below.refl _ _ | with_reducible assumption | refine bgw ?_ (by first | (simp; done) | (simp; omega) | omega) _ | refine Below.setCell ?_ (by first | exact Nat.le_of_not_lt (by assumption) | (simp; done) | (simp; omega) | omega) _ | refine Below.alloc ?_ (by first | (simp; done) | (simp; omega) | omega) _ | refine Below.drew ?_))⟩; first | rfl | (simp [ovl8, Bx.ovl, val4_eq, h1, h2]; done) | (simp [ovl8, Bx.ovl, val4_eq, h1, h2]; omega) | (simp [ovl8, Bx.ovl, val4_eq, h1, h2]; rw [Bool.eq_iff_iff]; first | (simp; done) | (simp; omega)))
  go_enter Try.func16, Try.ntmps16
  go_wp2_with (first | (go_at_call 13; (first | (refine Calls.mono (gw_at (boolIs (rxval_b _ _ _ _ _) (b := true) (by assumption))) ?_; rintro e w1 ⟨rfl, q, rfl⟩) | (refine Calls.mono (gw_at (boolIs (rxval_b _ _ _ _ _) (b := false) (by assumption))) ?_; rintro e w1 ⟨rfl, q, rfl⟩) | (refine Calls.mono (gw_at (rxval_b _ _ _ _ _)) ?_; rintro e w1 ⟨rfl, q, rfl⟩))))
  all_goals (go_ret; refine ⟨?_, (by repeat (first | with_reducible exact Below.refl _ _ | with_reducible assumption | refine bgw ?_ (by first | (simp; done) | (simp; omega) | omega) _ | refine Below.setCell ?_ (by first | exact Nat.le_of_not_lt (by assumption) | (simp; done) | (simp; omega) | omega) _ | refine Below.alloc ?_ (by first | (simp; done) | (simp; omega) | omega) _ | refine Below.drew ?_))⟩; first | rfl | (simp [ovl8, Bx.ovl, val4_eq, h1, h2]; done) | (simp [ovl8, Bx.ovl, val4_eq, h1, h2]; omega) | (simp [ovl8, Bx.ovl, val4_eq, h1, h2]; rw [Bool.eq_iff_iff]; first | (simp; done) | (simp; omega)))

theorem rxcon_b (ax0 ay0 ax1 ay1 bx0 by0 bx1 by1 : Int) (w : World) : Calls Try.prog 18 #[.agg #[.int .i64 ax0, .int .i64 ay0, .int .i64 ax1, .int .i64 ay1], .agg #[.int .i64 bx0, .int .i64 by0, .int .i64 bx1, .int .i64 by1]] w fun e w' => e = .returned (.bool (con8 ax0 ay0 ax1 ay1 bx0 by0 bx1 by1)) ∧ Below w.heap.size w w' := by
  cases h1 : val4 ax0 ay0 ax1 ay1
  focus
    go_enter Try.func18, Try.ntmps18
    go_wp2_with (first | (go_at_call 13; (first | (refine Calls.mono (gw_at (boolIs (rxval_b _ _ _ _ _) (b := true) (by assumption))) ?_; rintro e w1 ⟨rfl, q, rfl⟩) | (refine Calls.mono (gw_at (boolIs (rxval_b _ _ _ _ _) (b := false) (by assumption))) ?_; rintro e w1 ⟨rfl, q, rfl⟩) | (refine Calls.mono (gw_at (rxval_b _ _ _ _ _)) ?_; rintro e w1 ⟨rfl, q, rfl⟩))))
    all_goals (go_ret; refine ⟨?_, (by repeat (first | with_reducible exact Below.refl _ _ | with_reducible assumption | refine bgw ?_ (by first | (simp; done) | (simp; omega) | omega) _ | refine Below.setCell ?_ (by first | exact Nat.le_of_not_lt (by assumption) | (simp; done) | (simp; omega) | omega) _ | refine Below.alloc ?_ (by first | (simp; done) | (simp; omega) | omega) _ | refine Below.drew ?_))⟩; first | rfl | (simp [con8, Bx.con, val4_eq, h1]; done) | (simp [con8, Bx.con, val4_eq, h1]; omega) | (simp [con8, Bx.con, val4_eq, h1]; rw [Bool.eq_iff_iff]; first | (simp; done) | (simp; omega)))
  cases h2 : val4 bx0 by0 bx1 by1
  focus
    go_enter Try.func18, Try.ntmps18
    go_wp2_with (first | (go_at_call 13; (first | (refine Calls.mono (gw_at (boolIs (rxval_b _ _ _ _ _) (b := true) (by assumption))) ?_; rintro e w1 ⟨rfl, q, rfl⟩) | (refine Calls.mono (gw_at (boolIs (rxval_b _ _ _ _ _) (b := false) (by assumption))) ?_; rintro e w1 ⟨rfl, q, rfl⟩) | (refine Calls.mono (gw_at (rxval_b _ _ _ _ _)) ?_; rintro e w1 ⟨rfl, q, rfl⟩))))
    all_goals (go_ret; refine ⟨?_, (by repeat (first | with_reducible exact Below.refl _ _ | with_reducible assumption | refine bgw ?_ (by first | (simp; done) | (simp; omega) | omega) _ | refine Below.setCell ?_ (by first | exact Nat.le_of_not_lt (by assumption) | (simp; done) | (simp; omega) | omega) _ | refine Below.alloc ?_ (by first | (simp; done) | (simp; omega) | omega) _ | refine Below.drew ?_))⟩; first | rfl | (simp [con8, Bx.con, val4_eq, h1, h2]; done) | (simp [con8, Bx.con, val4_eq, h1, h2]; omega) | (simp [con8, Bx.con, val4_eq, h1, h2]; rw [Bool.eq_iff_iff]; first | (simp; done) | (simp; omega)))
  go_enter Try.func18, Try.ntmps18
  go_wp2_with (first | (go_at_call 13; (first | (refine Calls.mono (gw_at (boolIs (rxval_b _ _ _ _ _) (b := true) (by assumption))) ?_; rintro e w1 ⟨rfl, q, rfl⟩) | (refine Calls.mono (gw_at (boolIs (rxval_b _ _ _ _ _) (b := false) (by assumption))) ?_; rintro e w1 ⟨rfl, q, rfl⟩) | (refine Calls.mono (gw_at (rxval_b _ _ _ _ _)) ?_; rintro e w1 ⟨rfl, q, rfl⟩))))
  all_goals (go_ret; refine ⟨?_, (by repeat (first | with_reducible exact Below.refl _ _ | with_reducible assumption | refine bgw ?_ (by first | (simp; done) | (simp; omega) | omega) _ | refine Below.setCell ?_ (by first | exact Nat.le_of_not_lt (by assumption) | (simp; done) | (simp; omega) | omega) _ | refine Below.alloc ?_ (by first | (simp; done) | (simp; omega) | omega) _ | refine Below.drew ?_))⟩; first | rfl | (simp [con8, Bx.con, val4_eq, h1, h2]; done) | (simp [con8, Bx.con, val4_eq, h1, h2]; omega) | (simp [con8, Bx.con, val4_eq, h1, h2]; rw [Bool.eq_iff_iff]; first | (simp; done) | (simp; omega)))

theorem rxhas_b (x0 y0 x1 y1 x y : Int) (w : World) : Calls Try.prog 19 #[.agg #[.int .i64 x0, .int .i64 y0, .int .i64 x1, .int .i64 y1], .agg #[.int .i64 x, .int .i64 y]] w fun e w' => e = .returned (.bool (has6 x0 y0 x1 y1 x y)) ∧ Below w.heap.size w w' := by
  cases h1 : val4 x0 y0 x1 y1
  focus
    go_enter Try.func19, Try.ntmps19
    go_wp2_with (first | (go_at_call 30; refine Calls.mono (gw_at (rxsat_b _ _ _)) ?_; rintro e w1 ⟨rfl, q, rfl⟩) | (go_at_call 13; (first | (refine Calls.mono (gw_at (boolIs (rxval_b _ _ _ _ _) (b := true) (by assumption))) ?_; rintro e w1 ⟨rfl, q, rfl⟩) | (refine Calls.mono (gw_at (boolIs (rxval_b _ _ _ _ _) (b := false) (by assumption))) ?_; rintro e w1 ⟨rfl, q, rfl⟩) | (refine Calls.mono (gw_at (rxval_b _ _ _ _ _)) ?_; rintro e w1 ⟨rfl, q, rfl⟩))))
    all_goals (go_ret; refine ⟨?_, (by repeat (first | with_reducible exact Below.refl _ _ | with_reducible assumption | refine bgw ?_ (by first | (simp; done) | (simp; omega) | omega) _ | refine Below.setCell ?_ (by first | exact Nat.le_of_not_lt (by assumption) | (simp; done) | (simp; omega) | omega) _ | refine Below.alloc ?_ (by first | (simp; done) | (simp; omega) | omega) _ | refine Below.drew ?_))⟩; first | rfl | (simp [has6, Bx.has, val4_eq, h1]; done) | (simp [has6, Bx.has, val4_eq, h1]; omega) | (simp [has6, Bx.has, val4_eq, h1]; rw [Bool.eq_iff_iff]; first | (simp; done) | (simp; omega)))
  go_enter Try.func19, Try.ntmps19
  go_wp2_with (first | (go_at_call 30; refine Calls.mono (gw_at (rxsat_b _ _ _)) ?_; rintro e w1 ⟨rfl, q, rfl⟩) | (go_at_call 13; (first | (refine Calls.mono (gw_at (boolIs (rxval_b _ _ _ _ _) (b := true) (by assumption))) ?_; rintro e w1 ⟨rfl, q, rfl⟩) | (refine Calls.mono (gw_at (boolIs (rxval_b _ _ _ _ _) (b := false) (by assumption))) ?_; rintro e w1 ⟨rfl, q, rfl⟩) | (refine Calls.mono (gw_at (rxval_b _ _ _ _ _)) ?_; rintro e w1 ⟨rfl, q, rfl⟩))))
  all_goals (go_ret; refine ⟨?_, (by repeat (first | with_reducible exact Below.refl _ _ | with_reducible assumption | refine bgw ?_ (by first | (simp; done) | (simp; omega) | omega) _ | refine Below.setCell ?_ (by first | exact Nat.le_of_not_lt (by assumption) | (simp; done) | (simp; omega) | omega) _ | refine Below.alloc ?_ (by first | (simp; done) | (simp; omega) | omega) _ | refine Below.drew ?_))⟩; first | rfl | (simp [has6, Bx.has, val4_eq, h1]; done) | (simp [has6, Bx.has, val4_eq, h1]; omega) | (simp [has6, Bx.has, val4_eq, h1]; rw [Bool.eq_iff_iff]; first | (simp; done) | (simp; omega)))

set_option maxHeartbeats 800000 in
theorem rxexp_b (x0 y0 x1 y1 m : Int) (w : World) : Calls Try.prog 21 #[.agg #[.int .i64 x0, .int .i64 y0, .int .i64 x1, .int .i64 y1], .int .i64 m] w fun e w' => e = .returned (.agg #[.int .i64 (Bx.exp ⟨x0, y0, x1, y1⟩ m).x0, .int .i64 (Bx.exp ⟨x0, y0, x1, y1⟩ m).y0, .int .i64 (Bx.exp ⟨x0, y0, x1, y1⟩ m).x1, .int .i64 (Bx.exp ⟨x0, y0, x1, y1⟩ m).y1]) ∧ Below w.heap.size w w' := by
  cases h1 : val4 x0 y0 x1 y1
  focus
    rw [show Bx.exp ⟨x0, y0, x1, y1⟩ m = Bx.zero from by simp [Bx.exp, val4_eq, h1]]
    go_enter Try.func21, Try.ntmps21
    go_wp2_with (first | (go_at_call 34; refine Calls.mono (gw_at (rsub_b _ _ _)) ?_; rintro e w1 ⟨rfl, q, rfl⟩) | (go_at_call 35; refine Calls.mono (gw_at (radd_b _ _ _)) ?_; rintro e w1 ⟨rfl, q, rfl⟩) | (go_at_call 13; (first | (refine Calls.mono (gw_at (boolIs (rxval_b _ _ _ _ _) (b := true) (by assumption))) ?_; rintro e w1 ⟨rfl, q, rfl⟩) | (refine Calls.mono (gw_at (boolIs (rxval_b _ _ _ _ _) (b := false) (by assumption))) ?_; rintro e w1 ⟨rfl, q, rfl⟩) | (refine Calls.mono (gw_at (rxval_b _ _ _ _ _)) ?_; rintro e w1 ⟨rfl, q, rfl⟩))))
    repeat
      apply wp_box1 24 39 23 5 #[.int .i64 0, .int .i64 0, .int .i64 0, .int .i64 0] 25 (by kernel_rfl) (by rfl) (by kernel_rfl) (by intro o ho a w; simp at ho; subst ho; simp [go_sem, ptr])
      · intro p0
        simp only [heads, ghost, List.take_succ_cons, List.take_zero, List.map_cons, List.map_nil]
        repeat (go_big_quiet_step ((first | (go_at_call 34; exact gw_call (rsub_b _ _ _)) | (go_at_call 35; exact gw_call (radd_b _ _ _)) | (go_at_call 13; (first | (exact gw_call (boolIs (rxval_b _ _ _ _ _) (b := true) (by assumption))) | (exact gw_call (boolIs (rxval_b _ _ _ _ _) (b := false) (by assumption))) | (exact gw_call (rxval_b _ _ _ _ _)))))))
        exact wpQuiet_nil rfl
      · intro R bB p0 nB gB  kB hK
        simp only [List.drop_succ_cons, List.drop_zero, Act.put, ptr, List.setIfInBounds_toArray, List.set_cons_succ, List.set_cons_zero]
        have cB_0 : _ = some _ := blk_cell kB 0
        have cB_1 : _ = some _ := blk_cell kB 1
        have cB_2 : _ = some _ := blk_cell kB 2
        have cB_3 : _ = some _ := blk_cell kB 3
        have fB_0 := blk_free kB 0
        have fB_1 := blk_free kB 1
        have fB_2 := blk_free kB 2
        have fB_3 := blk_free kB 3
        have oB := blk_older kB
        go_wp2_with fail
        refine box_end1 gB hK ?_ ?_
        · exact (by repeat (first | with_reducible exact Below.refl _ _ | with_reducible assumption | refine bgw ?_ (by first | (simp; done) | (simp; omega) | omega) _ | refine Below.setCell ?_ (by first | exact Nat.le_of_not_lt (by assumption) | (simp; done) | (simp; omega) | omega) _ | refine Below.alloc ?_ (by first | (simp; done) | (simp; omega) | omega) _ | refine Below.drew ?_))
        · exact (by repeat' (first | with_reducible assumption | with_reducible apply blk_gw | with_reducible apply blk_alloc | with_reducible apply blk_set | ((with_reducible apply blk_other); focus (first | omega | assumption))))
      intro bB p0 nB  kB
      have cB_0 : _ = some _ := blk_cell kB 0
      have cB_1 : _ = some _ := blk_cell kB 1
      have cB_2 : _ = some _ := blk_cell kB 2
      have cB_3 : _ = some _ := blk_cell kB 3
      have fB_0 := blk_free kB 0
      have fB_1 := blk_free kB 1
      have fB_2 := blk_free kB 2
      have fB_3 := blk_free kB 3
      have oB := blk_older kB
      go_wp2_with (first | (go_at_call 34; refine Calls.mono (gw_at (rsub_b _ _ _)) ?_; rintro e w1 ⟨rfl, q, rfl⟩) | (go_at_call 35; refine Calls.mono (gw_at (radd_b _ _ _)) ?_; rintro e w1 ⟨rfl, q, rfl⟩) | (go_at_call 13; (first | (refine Calls.mono (gw_at (boolIs (rxval_b _ _ _ _ _) (b := true) (by assumption))) ?_; rintro e w1 ⟨rfl, q, rfl⟩) | (refine Calls.mono (gw_at (boolIs (rxval_b _ _ _ _ _) (b := false) (by assumption))) ?_; rintro e w1 ⟨rfl, q, rfl⟩) | (refine Calls.mono (gw_at (rxval_b _ _ _ _ _)) ?_; rintro e w1 ⟨rfl, q, rfl⟩))))
    exact bodyPost_ret (v := .agg #[.int .i64 0, .int .i64 0, .int .i64 0, .int .i64 0]) (by simp [results, Try.results21, go_sem]; try (first | with_reducible rfl | exact ⟨rfl, rfl⟩ | exact ⟨rfl, rfl, rfl⟩ | exact ⟨rfl, rfl, rfl, rfl⟩ | exact ⟨rfl, rfl, rfl, rfl, rfl⟩ | exact ⟨rfl, rfl, rfl, rfl, rfl, rfl⟩ | rfl)) rfl ⟨rfl, (by repeat (first | with_reducible exact Below.refl _ _ | with_reducible assumption | refine bgw ?_ (by first | (simp; done) | (simp; omega) | omega) _ | refine Below.setCell ?_ (by first | exact Nat.le_of_not_lt (by assumption) | (simp; done) | (simp; omega) | omega) _ | refine Below.alloc ?_ (by first | (simp; done) | (simp; omega) | omega) _ | refine Below.drew ?_))⟩
  cases h2 : val4 (sub x0 m) (sub y0 m) (add x1 m) (add y1 m)
  focus
    rw [show Bx.exp ⟨x0, y0, x1, y1⟩ m = Bx.zero from by simp [Bx.exp, val4_eq, h1, Bx.mar, h2]]
    go_enter Try.func21, Try.ntmps21
    go_wp2_with (first | (go_at_call 34; refine Calls.mono (gw_at (rsub_b _ _ _)) ?_; rintro e w1 ⟨rfl, q, rfl⟩) | (go_at_call 35; refine Calls.mono (gw_at (radd_b _ _ _)) ?_; rintro e w1 ⟨rfl, q, rfl⟩) | (go_at_call 13; (first | (refine Calls.mono (gw_at (boolIs (rxval_b _ _ _ _ _) (b := true) (by assumption))) ?_; rintro e w1 ⟨rfl, q, rfl⟩) | (refine Calls.mono (gw_at (boolIs (rxval_b _ _ _ _ _) (b := false) (by assumption))) ?_; rintro e w1 ⟨rfl, q, rfl⟩) | (refine Calls.mono (gw_at (rxval_b _ _ _ _ _)) ?_; rintro e w1 ⟨rfl, q, rfl⟩))))
    repeat
      apply wp_box1 24 39 23 5 #[.int .i64 0, .int .i64 0, .int .i64 0, .int .i64 0] 25 (by kernel_rfl) (by rfl) (by kernel_rfl) (by intro o ho a w; simp at ho; subst ho; simp [go_sem, ptr])
      · intro p0
        simp only [heads, ghost, List.take_succ_cons, List.take_zero, List.map_cons, List.map_nil]
        repeat (go_big_quiet_step ((first | (go_at_call 34; exact gw_call (rsub_b _ _ _)) | (go_at_call 35; exact gw_call (radd_b _ _ _)) | (go_at_call 13; (first | (exact gw_call (boolIs (rxval_b _ _ _ _ _) (b := true) (by assumption))) | (exact gw_call (boolIs (rxval_b _ _ _ _ _) (b := false) (by assumption))) | (exact gw_call (rxval_b _ _ _ _ _)))))))
        exact wpQuiet_nil rfl
      · intro R bB p0 nB gB  kB hK
        simp only [List.drop_succ_cons, List.drop_zero, Act.put, ptr, List.setIfInBounds_toArray, List.set_cons_succ, List.set_cons_zero]
        have cB_0 : _ = some _ := blk_cell kB 0
        have cB_1 : _ = some _ := blk_cell kB 1
        have cB_2 : _ = some _ := blk_cell kB 2
        have cB_3 : _ = some _ := blk_cell kB 3
        have fB_0 := blk_free kB 0
        have fB_1 := blk_free kB 1
        have fB_2 := blk_free kB 2
        have fB_3 := blk_free kB 3
        have oB := blk_older kB
        go_wp2_with fail
        refine box_end1 gB hK ?_ ?_
        · exact (by repeat (first | with_reducible exact Below.refl _ _ | with_reducible assumption | refine bgw ?_ (by first | (simp; done) | (simp; omega) | omega) _ | refine Below.setCell ?_ (by first | exact Nat.le_of_not_lt (by assumption) | (simp; done) | (simp; omega) | omega) _ | refine Below.alloc ?_ (by first | (simp; done) | (simp; omega) | omega) _ | refine Below.drew ?_))
        · exact (by repeat' (first | with_reducible assumption | with_reducible apply blk_gw | with_reducible apply blk_alloc | with_reducible apply blk_set | ((with_reducible apply blk_other); focus (first | omega | assumption))))
      intro bB p0 nB  kB
      have cB_0 : _ = some _ := blk_cell kB 0
      have cB_1 : _ = some _ := blk_cell kB 1
      have cB_2 : _ = some _ := blk_cell kB 2
      have cB_3 : _ = some _ := blk_cell kB 3
      have fB_0 := blk_free kB 0
      have fB_1 := blk_free kB 1
      have fB_2 := blk_free kB 2
      have fB_3 := blk_free kB 3
      have oB := blk_older kB
      go_wp2_with (first | (go_at_call 34; refine Calls.mono (gw_at (rsub_b _ _ _)) ?_; rintro e w1 ⟨rfl, q, rfl⟩) | (go_at_call 35; refine Calls.mono (gw_at (radd_b _ _ _)) ?_; rintro e w1 ⟨rfl, q, rfl⟩) | (go_at_call 13; (first | (refine Calls.mono (gw_at (boolIs (rxval_b _ _ _ _ _) (b := true) (by assumption))) ?_; rintro e w1 ⟨rfl, q, rfl⟩) | (refine Calls.mono (gw_at (boolIs (rxval_b _ _ _ _ _) (b := false) (by assumption))) ?_; rintro e w1 ⟨rfl, q, rfl⟩) | (refine Calls.mono (gw_at (rxval_b _ _ _ _ _)) ?_; rintro e w1 ⟨rfl, q, rfl⟩))))
    exact bodyPost_ret (v := .agg #[.int .i64 0, .int .i64 0, .int .i64 0, .int .i64 0]) (by simp [results, Try.results21, go_sem]; try (first | with_reducible rfl | exact ⟨rfl, rfl⟩ | exact ⟨rfl, rfl, rfl⟩ | exact ⟨rfl, rfl, rfl, rfl⟩ | exact ⟨rfl, rfl, rfl, rfl, rfl⟩ | exact ⟨rfl, rfl, rfl, rfl, rfl, rfl⟩ | rfl)) rfl ⟨rfl, (by repeat (first | with_reducible exact Below.refl _ _ | with_reducible assumption | refine bgw ?_ (by first | (simp; done) | (simp; omega) | omega) _ | refine Below.setCell ?_ (by first | exact Nat.le_of_not_lt (by assumption) | (simp; done) | (simp; omega) | omega) _ | refine Below.alloc ?_ (by first | (simp; done) | (simp; omega) | omega) _ | refine Below.drew ?_))⟩
  rw [show Bx.exp ⟨x0, y0, x1, y1⟩ m = ⟨sub x0 m, sub y0 m, add x1 m, add y1 m⟩ from by simp [Bx.exp, val4_eq, h1, Bx.mar, h2]]
  go_enter Try.func21, Try.ntmps21
  go_wp2_with (first | (go_at_call 34; refine Calls.mono (gw_at (rsub_b _ _ _)) ?_; rintro e w1 ⟨rfl, q, rfl⟩) | (go_at_call 35; refine Calls.mono (gw_at (radd_b _ _ _)) ?_; rintro e w1 ⟨rfl, q, rfl⟩) | (go_at_call 13; (first | (refine Calls.mono (gw_at (boolIs (rxval_b _ _ _ _ _) (b := true) (by assumption))) ?_; rintro e w1 ⟨rfl, q, rfl⟩) | (refine Calls.mono (gw_at (boolIs (rxval_b _ _ _ _ _) (b := false) (by assumption))) ?_; rintro e w1 ⟨rfl, q, rfl⟩) | (refine Calls.mono (gw_at (rxval_b _ _ _ _ _)) ?_; rintro e w1 ⟨rfl, q, rfl⟩))))
  repeat
    apply wp_box1 24 39 23 5 #[.int .i64 0, .int .i64 0, .int .i64 0, .int .i64 0] 25 (by kernel_rfl) (by rfl) (by kernel_rfl) (by intro o ho a w; simp at ho; subst ho; simp [go_sem, ptr])
    · intro p0
      simp only [heads, ghost, List.take_succ_cons, List.take_zero, List.map_cons, List.map_nil]
      repeat (go_big_quiet_step ((first | (go_at_call 34; exact gw_call (rsub_b _ _ _)) | (go_at_call 35; exact gw_call (radd_b _ _ _)) | (go_at_call 13; (first | (exact gw_call (boolIs (rxval_b _ _ _ _ _) (b := true) (by assumption))) | (exact gw_call (boolIs (rxval_b _ _ _ _ _) (b := false) (by assumption))) | (exact gw_call (rxval_b _ _ _ _ _)))))))
      exact wpQuiet_nil rfl
    · intro R bB p0 nB gB  kB hK
      simp only [List.drop_succ_cons, List.drop_zero, Act.put, ptr, List.setIfInBounds_toArray, List.set_cons_succ, List.set_cons_zero]
      have cB_0 : _ = some _ := blk_cell kB 0
      have cB_1 : _ = some _ := blk_cell kB 1
      have cB_2 : _ = some _ := blk_cell kB 2
      have cB_3 : _ = some _ := blk_cell kB 3
      have fB_0 := blk_free kB 0
      have fB_1 := blk_free kB 1
      have fB_2 := blk_free kB 2
      have fB_3 := blk_free kB 3
      have oB := blk_older kB
      go_wp2_with fail
      refine box_end1 gB hK ?_ ?_
      · exact (by repeat (first | with_reducible exact Below.refl _ _ | with_reducible assumption | refine bgw ?_ (by first | (simp; done) | (simp; omega) | omega) _ | refine Below.setCell ?_ (by first | exact Nat.le_of_not_lt (by assumption) | (simp; done) | (simp; omega) | omega) _ | refine Below.alloc ?_ (by first | (simp; done) | (simp; omega) | omega) _ | refine Below.drew ?_))
      · exact (by repeat' (first | with_reducible assumption | with_reducible apply blk_gw | with_reducible apply blk_alloc | with_reducible apply blk_set | ((with_reducible apply blk_other); focus (first | omega | assumption))))
    intro bB p0 nB  kB
    have cB_0 : _ = some _ := blk_cell kB 0
    have cB_1 : _ = some _ := blk_cell kB 1
    have cB_2 : _ = some _ := blk_cell kB 2
    have cB_3 : _ = some _ := blk_cell kB 3
    have fB_0 := blk_free kB 0
    have fB_1 := blk_free kB 1
    have fB_2 := blk_free kB 2
    have fB_3 := blk_free kB 3
    have oB := blk_older kB
    go_wp2_with (first | (go_at_call 34; refine Calls.mono (gw_at (rsub_b _ _ _)) ?_; rintro e w1 ⟨rfl, q, rfl⟩) | (go_at_call 35; refine Calls.mono (gw_at (radd_b _ _ _)) ?_; rintro e w1 ⟨rfl, q, rfl⟩) | (go_at_call 13; (first | (refine Calls.mono (gw_at (boolIs (rxval_b _ _ _ _ _) (b := true) (by assumption))) ?_; rintro e w1 ⟨rfl, q, rfl⟩) | (refine Calls.mono (gw_at (boolIs (rxval_b _ _ _ _ _) (b := false) (by assumption))) ?_; rintro e w1 ⟨rfl, q, rfl⟩) | (refine Calls.mono (gw_at (rxval_b _ _ _ _ _)) ?_; rintro e w1 ⟨rfl, q, rfl⟩))))
  exact bodyPost_ret (v := .agg #[.int .i64 (sub x0 m), .int .i64 (sub y0 m), .int .i64 (add x1 m), .int .i64 (add y1 m)]) (by simp [results, Try.results21, go_sem]; try (first | with_reducible rfl | exact ⟨rfl, rfl⟩ | exact ⟨rfl, rfl, rfl⟩ | exact ⟨rfl, rfl, rfl, rfl⟩ | exact ⟨rfl, rfl, rfl, rfl, rfl⟩ | exact ⟨rfl, rfl, rfl, rfl, rfl, rfl⟩ | rfl)) rfl ⟨rfl, (by repeat (first | with_reducible exact Below.refl _ _ | with_reducible assumption | refine bgw ?_ (by first | (simp; done) | (simp; omega) | omega) _ | refine Below.setCell ?_ (by first | exact Nat.le_of_not_lt (by assumption) | (simp; done) | (simp; omega) | omega) _ | refine Below.alloc ?_ (by first | (simp; done) | (simp; omega) | omega) _ | refine Below.drew ?_))⟩

theorem rxhp_b (x0 y0 x1 y1 : Int) (w : World) : Calls Try.prog 23 #[.agg #[.int .i64 x0, .int .i64 y0, .int .i64 x1, .int .i64 y1]] w fun e w' => e = .returned (.int .i64 (hp4 x0 y0 x1 y1)) ∧ Below w.heap.size w w' := by
  cases h1 : val4 x0 y0 x1 y1
  focus
    rw [show hp4 x0 y0 x1 y1 = 0 from by simp [hp4, Bx.hp, val4_eq, h1]]
    go_enter Try.func23, Try.ntmps23
    go_wp2_with (first | (go_at_call 13; (first | (refine Calls.mono (gw_at (boolIs (rxval_b _ _ _ _ _) (b := true) (by assumption))) ?_; rintro e w1 ⟨rfl, q, rfl⟩) | (refine Calls.mono (gw_at (boolIs (rxval_b _ _ _ _ _) (b := false) (by assumption))) ?_; rintro e w1 ⟨rfl, q, rfl⟩) | (refine Calls.mono (gw_at (rxval_b _ _ _ _ _)) ?_; rintro e w1 ⟨rfl, q, rfl⟩))) | (go_at_call 34; refine Calls.mono (gw_at (rsub_b _ _ _)) ?_; rintro e w1 ⟨rfl, q, rfl⟩) | (go_at_call 35; refine Calls.mono (gw_at (radd_b _ _ _)) ?_; rintro e w1 ⟨rfl, q, rfl⟩))
    repeat
      refine wp_region_gw (by kernel_rfl) (by kernel_rfl) ?_
      repeat (go_big_quiet_step ((first | (go_at_call 13; (first | (exact gw_call (boolIs (rxval_b _ _ _ _ _) (b := true) (by assumption))) | (exact gw_call (boolIs (rxval_b _ _ _ _ _) (b := false) (by assumption))) | (exact gw_call (rxval_b _ _ _ _ _)))) | (go_at_call 34; exact gw_call (rsub_b _ _ _)) | (go_at_call 35; exact gw_call (radd_b _ _ _)))))
      refine wpQuiet_nil ?_
      intro w1 hw1
      obtain ⟨q, rfl⟩ := hw1
      go_wp2_with (first | (go_at_call 13; (first | (refine Calls.mono (gw_at (boolIs (rxval_b _ _ _ _ _) (b := true) (by assumption))) ?_; rintro e w1 ⟨rfl, q, rfl⟩) | (refine Calls.mono (gw_at (boolIs (rxval_b _ _ _ _ _) (b := false) (by assumption))) ?_; rintro e w1 ⟨rfl, q, rfl⟩) | (refine Calls.mono (gw_at (rxval_b _ _ _ _ _)) ?_; rintro e w1 ⟨rfl, q, rfl⟩))) | (go_at_call 34; refine Calls.mono (gw_at (rsub_b _ _ _)) ?_; rintro e w1 ⟨rfl, q, rfl⟩) | (go_at_call 35; refine Calls.mono (gw_at (radd_b _ _ _)) ?_; rintro e w1 ⟨rfl, q, rfl⟩))
    go_ret
    exact ⟨rfl, (by repeat (first | with_reducible exact Below.refl _ _ | with_reducible assumption | refine bgw ?_ (by first | (simp; done) | (simp; omega) | omega) _ | refine Below.setCell ?_ (by first | exact Nat.le_of_not_lt (by assumption) | (simp; done) | (simp; omega) | omega) _ | refine Below.alloc ?_ (by first | (simp; done) | (simp; omega) | omega) _ | refine Below.drew ?_))⟩
  rw [show hp4 x0 y0 x1 y1 = add (sub x1 x0) (sub y1 y0) from by simp [hp4, Bx.hp, val4_eq, h1]]
  go_enter Try.func23, Try.ntmps23
  go_wp2_with (first | (go_at_call 13; (first | (refine Calls.mono (gw_at (boolIs (rxval_b _ _ _ _ _) (b := true) (by assumption))) ?_; rintro e w1 ⟨rfl, q, rfl⟩) | (refine Calls.mono (gw_at (boolIs (rxval_b _ _ _ _ _) (b := false) (by assumption))) ?_; rintro e w1 ⟨rfl, q, rfl⟩) | (refine Calls.mono (gw_at (rxval_b _ _ _ _ _)) ?_; rintro e w1 ⟨rfl, q, rfl⟩))) | (go_at_call 34; refine Calls.mono (gw_at (rsub_b _ _ _)) ?_; rintro e w1 ⟨rfl, q, rfl⟩) | (go_at_call 35; refine Calls.mono (gw_at (radd_b _ _ _)) ?_; rintro e w1 ⟨rfl, q, rfl⟩))
  repeat
    refine wp_region_gw (by kernel_rfl) (by kernel_rfl) ?_
    repeat (go_big_quiet_step ((first | (go_at_call 13; (first | (exact gw_call (boolIs (rxval_b _ _ _ _ _) (b := true) (by assumption))) | (exact gw_call (boolIs (rxval_b _ _ _ _ _) (b := false) (by assumption))) | (exact gw_call (rxval_b _ _ _ _ _)))) | (go_at_call 34; exact gw_call (rsub_b _ _ _)) | (go_at_call 35; exact gw_call (radd_b _ _ _)))))
    refine wpQuiet_nil ?_
    intro w1 hw1
    obtain ⟨q, rfl⟩ := hw1
    go_wp2_with (first | (go_at_call 13; (first | (refine Calls.mono (gw_at (boolIs (rxval_b _ _ _ _ _) (b := true) (by assumption))) ?_; rintro e w1 ⟨rfl, q, rfl⟩) | (refine Calls.mono (gw_at (boolIs (rxval_b _ _ _ _ _) (b := false) (by assumption))) ?_; rintro e w1 ⟨rfl, q, rfl⟩) | (refine Calls.mono (gw_at (rxval_b _ _ _ _ _)) ?_; rintro e w1 ⟨rfl, q, rfl⟩))) | (go_at_call 34; refine Calls.mono (gw_at (rsub_b _ _ _)) ?_; rintro e w1 ⟨rfl, q, rfl⟩) | (go_at_call 35; refine Calls.mono (gw_at (radd_b _ _ _)) ?_; rintro e w1 ⟨rfl, q, rfl⟩))
  go_ret
  exact ⟨rfl, (by repeat (first | with_reducible exact Below.refl _ _ | with_reducible assumption | refine bgw ?_ (by first | (simp; done) | (simp; omega) | omega) _ | refine Below.setCell ?_ (by first | exact Nat.le_of_not_lt (by assumption) | (simp; done) | (simp; omega) | omega) _ | refine Below.alloc ?_ (by first | (simp; done) | (simp; omega) | omega) _ | refine Below.drew ?_))⟩

theorem rxseg_b (x0 y0 x1 y1 fx fy tx ty : Int) (w : World) : Calls Try.prog 27 #[.agg #[.int .i64 x0, .int .i64 y0, .int .i64 x1, .int .i64 y1], .agg #[.int .i64 fx, .int .i64 fy], .agg #[.int .i64 tx, .int .i64 ty]] w fun e w' => e = .returned (.bool (seg8 x0 y0 x1 y1 fx fy tx ty)) ∧ Below w.heap.size w w' := by
  have e0 : ovl8 x0 y0 x1 y1 (min (sat fx) (sat tx)) (min (sat fy) (sat ty)) (max (sat fx) (sat tx)) (max (sat fy) (sat ty)) = Bx.ovl ⟨x0, y0, x1, y1⟩ (Bx.two fx fy tx ty) := rfl
  cases h0 : Bx.ovl ⟨x0, y0, x1, y1⟩ (Bx.two fx fy tx ty)
  focus
    rw [h0] at e0
    go_enter Try.func27, Try.ntmps27
    go_wp2_with (first | (go_at_call 25; (with_reducible show Calls _ _ (#[Value.slice _ 2 _]) _ _); refine Calls.mono (gw_at (rfp2_b _ _ _ _ _ _ _ _ (by first | ((with_reducible refine blk_at ?_); simp; done) | ((with_reducible refine blk_gw (blk_at ?_)); simp; done) | ((with_reducible refine blk_alloc (blk_at ?_)); simp; done) | ((with_reducible refine blk_gw (blk_alloc (blk_at ?_))); simp; done) | with_reducible assumption))) ?_; rintro e w1 ⟨rfl, q, rfl⟩) | (go_at_call 25; (with_reducible show Calls _ _ (#[Value.slice _ 4 _]) _ _); refine Calls.mono (gw_at (rfp4_b _ _ _ _ _ _ _ _ _ _ _ _ (by first | ((with_reducible refine blk_at ?_); simp; done) | ((with_reducible refine blk_gw (blk_at ?_)); simp; done) | ((with_reducible refine blk_alloc (blk_at ?_)); simp; done) | ((with_reducible refine blk_gw (blk_alloc (blk_at ?_))); simp; done) | with_reducible assumption))) ?_; rintro e w1 ⟨rfl, q, rfl⟩) | (go_at_call 25; (with_reducible show Calls _ _ (#[Value.slice _ (List.length _) _]) _ _); refine Calls.mono (gw_at (rfp_b _ _ _ _ (Pts.to (by with_reducible assumption) (by repeat (first | with_reducible exact Below.refl _ _ | with_reducible assumption | refine bgw ?_ (by first | (simp; done) | (simp; omega) | omega) _ | refine Below.setCell ?_ (by first | exact Nat.le_of_not_lt (by assumption) | (simp; done) | (simp; omega) | omega) _ | refine Below.alloc ?_ (by first | (simp; done) | (simp; omega) | omega) _ | refine Below.drew ?_))) (by with_reducible assumption))) ?_; rintro e w1 ⟨rfl, q, rfl⟩) | (go_at_call 16; (first | (refine Calls.mono (gw_at (boolIs (rxovl_b _ _ _ _ _ _ _ _ _) (b := true) (by assumption))) ?_; rintro e w1 ⟨rfl, q, rfl⟩) | (refine Calls.mono (gw_at (boolIs (rxovl_b _ _ _ _ _ _ _ _ _) (b := false) (by assumption))) ?_; rintro e w1 ⟨rfl, q, rfl⟩) | (refine Calls.mono (gw_at (rxovl_b _ _ _ _ _ _ _ _ _)) ?_; rintro e w1 ⟨rfl, q, rfl⟩))) | (go_at_call 38; refine Calls.mono (gw_at (rorient_b _ _ _ _ _ _ _)) ?_; rintro e w1 ⟨rfl, q, rfl⟩))
    repeat
      refine wp_region_gw (by kernel_rfl) (by kernel_rfl) ?_
      repeat (go_big_quiet_step ((first | (go_at_call 25; (with_reducible show Calls _ _ (#[Value.slice _ 2 _]) _ _); exact gw_call (rfp2_b _ _ _ _ _ _ _ _ (by first | ((with_reducible refine blk_at ?_); simp; done) | ((with_reducible refine blk_gw (blk_at ?_)); simp; done) | ((with_reducible refine blk_alloc (blk_at ?_)); simp; done) | ((with_reducible refine blk_gw (blk_alloc (blk_at ?_))); simp; done) | with_reducible assumption))) | (go_at_call 25; (with_reducible show Calls _ _ (#[Value.slice _ 4 _]) _ _); exact gw_call (rfp4_b _ _ _ _ _ _ _ _ _ _ _ _ (by first | ((with_reducible refine blk_at ?_); simp; done) | ((with_reducible refine blk_gw (blk_at ?_)); simp; done) | ((with_reducible refine blk_alloc (blk_at ?_)); simp; done) | ((with_reducible refine blk_gw (blk_alloc (blk_at ?_))); simp; done) | with_reducible assumption))) | (go_at_call 25; (with_reducible show Calls _ _ (#[Value.slice _ (List.length _) _]) _ _); exact gw_call (rfp_b _ _ _ _ (Pts.to (by with_reducible assumption) (by repeat (first | with_reducible exact Below.refl _ _ | with_reducible assumption | refine bgw ?_ (by first | (simp; done) | (simp; omega) | omega) _ | refine Below.setCell ?_ (by first | exact Nat.le_of_not_lt (by assumption) | (simp; done) | (simp; omega) | omega) _ | refine Below.alloc ?_ (by first | (simp; done) | (simp; omega) | omega) _ | refine Below.drew ?_))) (by with_reducible assumption))) | (go_at_call 16; (first | (exact gw_call (boolIs (rxovl_b _ _ _ _ _ _ _ _ _) (b := true) (by assumption))) | (exact gw_call (boolIs (rxovl_b _ _ _ _ _ _ _ _ _) (b := false) (by assumption))) | (exact gw_call (rxovl_b _ _ _ _ _ _ _ _ _)))) | (go_at_call 38; exact gw_call (rorient_b _ _ _ _ _ _ _)))))
      refine wpQuiet_nil ?_
      intro w1 hw1
      obtain ⟨q, rfl⟩ := hw1
      go_wp2_with (first | (go_at_call 25; (with_reducible show Calls _ _ (#[Value.slice _ 2 _]) _ _); refine Calls.mono (gw_at (rfp2_b _ _ _ _ _ _ _ _ (by first | ((with_reducible refine blk_at ?_); simp; done) | ((with_reducible refine blk_gw (blk_at ?_)); simp; done) | ((with_reducible refine blk_alloc (blk_at ?_)); simp; done) | ((with_reducible refine blk_gw (blk_alloc (blk_at ?_))); simp; done) | with_reducible assumption))) ?_; rintro e w1 ⟨rfl, q, rfl⟩) | (go_at_call 25; (with_reducible show Calls _ _ (#[Value.slice _ 4 _]) _ _); refine Calls.mono (gw_at (rfp4_b _ _ _ _ _ _ _ _ _ _ _ _ (by first | ((with_reducible refine blk_at ?_); simp; done) | ((with_reducible refine blk_gw (blk_at ?_)); simp; done) | ((with_reducible refine blk_alloc (blk_at ?_)); simp; done) | ((with_reducible refine blk_gw (blk_alloc (blk_at ?_))); simp; done) | with_reducible assumption))) ?_; rintro e w1 ⟨rfl, q, rfl⟩) | (go_at_call 25; (with_reducible show Calls _ _ (#[Value.slice _ (List.length _) _]) _ _); refine Calls.mono (gw_at (rfp_b _ _ _ _ (Pts.to (by with_reducible assumption) (by repeat (first | with_reducible exact Below.refl _ _ | with_reducible assumption | refine bgw ?_ (by first | (simp; done) | (simp; omega) | omega) _ | refine Below.setCell ?_ (by first | exact Nat.le_of_not_lt (by assumption) | (simp; done) | (simp; omega) | omega) _ | refine Below.alloc ?_ (by first | (simp; done) | (simp; omega) | omega) _ | refine Below.drew ?_))) (by with_reducible assumption))) ?_; rintro e w1 ⟨rfl, q, rfl⟩) | (go_at_call 16; (first | (refine Calls.mono (gw_at (boolIs (rxovl_b _ _ _ _ _ _ _ _ _) (b := true) (by assumption))) ?_; rintro e w1 ⟨rfl, q, rfl⟩) | (refine Calls.mono (gw_at (boolIs (rxovl_b _ _ _ _ _ _ _ _ _) (b := false) (by assumption))) ?_; rintro e w1 ⟨rfl, q, rfl⟩) | (refine Calls.mono (gw_at (rxovl_b _ _ _ _ _ _ _ _ _)) ?_; rintro e w1 ⟨rfl, q, rfl⟩))) | (go_at_call 38; refine Calls.mono (gw_at (rorient_b _ _ _ _ _ _ _)) ?_; rintro e w1 ⟨rfl, q, rfl⟩))
    go_ret
    exact ⟨by simp [seg8, Bx.seg, h0], (by repeat (first | with_reducible exact Below.refl _ _ | with_reducible assumption | refine bgw ?_ (by first | (simp; done) | (simp; omega) | omega) _ | refine Below.setCell ?_ (by first | exact Nat.le_of_not_lt (by assumption) | (simp; done) | (simp; omega) | omega) _ | refine Below.alloc ?_ (by first | (simp; done) | (simp; omega) | omega) _ | refine Below.drew ?_))⟩
  rw [h0] at e0
  go_enter Try.func27, Try.ntmps27
  go_wp2_with (first | (go_at_call 25; (with_reducible show Calls _ _ (#[Value.slice _ 2 _]) _ _); refine Calls.mono (gw_at (rfp2_b _ _ _ _ _ _ _ _ (by first | ((with_reducible refine blk_at ?_); simp; done) | ((with_reducible refine blk_gw (blk_at ?_)); simp; done) | ((with_reducible refine blk_alloc (blk_at ?_)); simp; done) | ((with_reducible refine blk_gw (blk_alloc (blk_at ?_))); simp; done) | with_reducible assumption))) ?_; rintro e w1 ⟨rfl, q, rfl⟩) | (go_at_call 25; (with_reducible show Calls _ _ (#[Value.slice _ 4 _]) _ _); refine Calls.mono (gw_at (rfp4_b _ _ _ _ _ _ _ _ _ _ _ _ (by first | ((with_reducible refine blk_at ?_); simp; done) | ((with_reducible refine blk_gw (blk_at ?_)); simp; done) | ((with_reducible refine blk_alloc (blk_at ?_)); simp; done) | ((with_reducible refine blk_gw (blk_alloc (blk_at ?_))); simp; done) | with_reducible assumption))) ?_; rintro e w1 ⟨rfl, q, rfl⟩) | (go_at_call 25; (with_reducible show Calls _ _ (#[Value.slice _ (List.length _) _]) _ _); refine Calls.mono (gw_at (rfp_b _ _ _ _ (Pts.to (by with_reducible assumption) (by repeat (first | with_reducible exact Below.refl _ _ | with_reducible assumption | refine bgw ?_ (by first | (simp; done) | (simp; omega) | omega) _ | refine Below.setCell ?_ (by first | exact Nat.le_of_not_lt (by assumption) | (simp; done) | (simp; omega) | omega) _ | refine Below.alloc ?_ (by first | (simp; done) | (simp; omega) | omega) _ | refine Below.drew ?_))) (by with_reducible assumption))) ?_; rintro e w1 ⟨rfl, q, rfl⟩) | (go_at_call 16; (first | (refine Calls.mono (gw_at (boolIs (rxovl_b _ _ _ _ _ _ _ _ _) (b := true) (by assumption))) ?_; rintro e w1 ⟨rfl, q, rfl⟩) | (refine Calls.mono (gw_at (boolIs (rxovl_b _ _ _ _ _ _ _ _ _) (b := false) (by assumption))) ?_; rintro e w1 ⟨rfl, q, rfl⟩) | (refine Calls.mono (gw_at (rxovl_b _ _ _ _ _ _ _ _ _)) ?_; rintro e w1 ⟨rfl, q, rfl⟩))) | (go_at_call 38; refine Calls.mono (gw_at (rorient_b _ _ _ _ _ _ _)) ?_; rintro e w1 ⟨rfl, q, rfl⟩))
  refine wp_named ?_
  intro W hW
  have k3 : blk W w.heap.size #[.int .i64 x0, .int .i64 y0, .int .i64 x1, .int .i64 y1] 25 := by rw [hW]; exact (by repeat (first | with_reducible exact blk_new _ _ _ | ((with_reducible refine blk_at ?_); (simp; done)) | with_reducible apply blk_alloc | with_reducible apply blk_gw))
  have k4 : blk W (w.heap.size + 1) #[.int .i64 fx, .int .i64 fy] 23 := by rw [hW]; exact (by repeat (first | with_reducible exact blk_new _ _ _ | ((with_reducible refine blk_at ?_); (simp; done)) | with_reducible apply blk_alloc | with_reducible apply blk_gw))
  have k5 : blk W (w.heap.size + 1 + 1) #[.int .i64 tx, .int .i64 ty] 23 := by rw [hW]; exact (by repeat (first | with_reducible exact blk_new _ _ _ | ((with_reducible refine blk_at ?_); (simp; done)) | with_reducible apply blk_alloc | with_reducible apply blk_gw))
  have k9 := blk_top hW
  have hb : Below w.heap.size w W := by rw [hW]; exact (by repeat (first | with_reducible exact Below.refl _ _ | with_reducible assumption | refine bgw ?_ (by first | (simp; done) | (simp; omega) | omega) _ | refine Below.setCell ?_ (by first | exact Nat.le_of_not_lt (by assumption) | (simp; done) | (simp; omega) | omega) _ | refine Below.alloc ?_ (by first | (simp; done) | (simp; omega) | omega) _ | refine Below.drew ?_))
  clear hW
  simp at k9
  have ok3 := blk_older k3
  have ck3_0 : _ = some _ := blk_cell k3 0
  have ck3_1 : _ = some _ := blk_cell k3 1
  have ck3_2 : _ = some _ := blk_cell k3 2
  have ck3_3 : _ = some _ := blk_cell k3 3
  have fk3_0 := blk_free k3 0
  have fk3_1 := blk_free k3 1
  have fk3_2 := blk_free k3 2
  have fk3_3 := blk_free k3 3
  have ok4 := blk_older k4
  have ck4_0 : _ = some _ := blk_cell k4 0
  have ck4_1 : _ = some _ := blk_cell k4 1
  have fk4_0 := blk_free k4 0
  have fk4_1 := blk_free k4 1
  have ok5 := blk_older k5
  have ck5_0 : _ = some _ := blk_cell k5 0
  have ck5_1 : _ = some _ := blk_cell k5 1
  have fk5_0 := blk_free k5 0
  have fk5_1 := blk_free k5 1
  have ok9 := blk_older k9
  have hsz := hb.size
  go_loopw [10, 11, 12] (fun l r i wr => ∃ k : Nat, k ≤ 4 ∧ l = .int .i64 (Bx.count ⟨x0, y0, x1, y1⟩ fx fy tx ty 1 k) ∧ r = .int .i64 (Bx.count ⟨x0, y0, x1, y1⟩ fx fy tx ty (-1) k) ∧ i = .int .i64 k ∧ ∃ p, wr = gw W p)
    (fun _ _ i _ => (4 - intOf i).toNat)
  case atStart => exact ⟨0, by omega, rfl, rfl, rfl, ⟨⟨W.drawn, #[]⟩, by unfold gw; simp⟩⟩
  case round =>
    obtain ⟨k, hk, rfl, rfl, rfl, p, rfl⟩ := hrel
    have cn1 := Bx.count_in ⟨x0, y0, x1, y1⟩ fx fy tx ty 1 k
    have cn2 := Bx.count_in ⟨x0, y0, x1, y1⟩ fx fy tx ty (-1) k
    by_cases hlt : k < 4
    · obtain ⟨p0, p1⟩ := corner_at k9 hlt
      have i0 : (0 : Int) ≤ (k : Int) := by omega
      have i1 : (k : Int) < 4 := by omega
      by_cases s1 : Bx.side ⟨x0, y0, x1, y1⟩ fx fy tx ty k = 1
      · have t1 : (orient fx fy tx ty (Bx.cx ⟨x0, y0, x1, y1⟩ k) (Bx.cy ⟨x0, y0, x1, y1⟩ k) == 1) = true := by rw [beq_iff_eq]; exact s1
        have t2 : (orient fx fy tx ty (Bx.cx ⟨x0, y0, x1, y1⟩ k) (Bx.cy ⟨x0, y0, x1, y1⟩ k) == -1) = false := by rw [beq_eq_false_iff_ne]; intro e; unfold Bx.side at s1; omega
        go_wp2_with (first | (go_at_call 25; (with_reducible show Calls _ _ (#[Value.slice _ 2 _]) _ _); refine Calls.mono (gw_at (rfp2_b _ _ _ _ _ _ _ _ (by first | ((with_reducible refine blk_at ?_); simp; done) | ((with_reducible refine blk_gw (blk_at ?_)); simp; done) | ((with_reducible refine blk_alloc (blk_at ?_)); simp; done) | ((with_reducible refine blk_gw (blk_alloc (blk_at ?_))); simp; done) | with_reducible assumption))) ?_; rintro e w1 ⟨rfl, q, rfl⟩) | (go_at_call 25; (with_reducible show Calls _ _ (#[Value.slice _ 4 _]) _ _); refine Calls.mono (gw_at (rfp4_b _ _ _ _ _ _ _ _ _ _ _ _ (by first | ((with_reducible refine blk_at ?_); simp; done) | ((with_reducible refine blk_gw (blk_at ?_)); simp; done) | ((with_reducible refine blk_alloc (blk_at ?_)); simp; done) | ((with_reducible refine blk_gw (blk_alloc (blk_at ?_))); simp; done) | with_reducible assumption))) ?_; rintro e w1 ⟨rfl, q, rfl⟩) | (go_at_call 25; (with_reducible show Calls _ _ (#[Value.slice _ (List.length _) _]) _ _); refine Calls.mono (gw_at (rfp_b _ _ _ _ (Pts.to (by with_reducible assumption) (by repeat (first | with_reducible exact Below.refl _ _ | with_reducible assumption | refine bgw ?_ (by first | (simp; done) | (simp; omega) | omega) _ | refine Below.setCell ?_ (by first | exact Nat.le_of_not_lt (by assumption) | (simp; done) | (simp; omega) | omega) _ | refine Below.alloc ?_ (by first | (simp; done) | (simp; omega) | omega) _ | refine Below.drew ?_))) (by with_reducible assumption))) ?_; rintro e w1 ⟨rfl, q, rfl⟩) | (go_at_call 16; (first | (refine Calls.mono (gw_at (boolIs (rxovl_b _ _ _ _ _ _ _ _ _) (b := true) (by assumption))) ?_; rintro e w1 ⟨rfl, q, rfl⟩) | (refine Calls.mono (gw_at (boolIs (rxovl_b _ _ _ _ _ _ _ _ _) (b := false) (by assumption))) ?_; rintro e w1 ⟨rfl, q, rfl⟩) | (refine Calls.mono (gw_at (rxovl_b _ _ _ _ _ _ _ _ _)) ?_; rintro e w1 ⟨rfl, q, rfl⟩))) | (go_at_call 38; refine Calls.mono (gw_at (rorient_b _ _ _ _ _ _ _)) ?_; rintro e w1 ⟨rfl, q, rfl⟩))
        refine wp_region_gw (by kernel_rfl) (by kernel_rfl) ?_
        repeat (go_big_quiet_step ((first | (go_at_call 25; (with_reducible show Calls _ _ (#[Value.slice _ 2 _]) _ _); exact gw_call (rfp2_b _ _ _ _ _ _ _ _ (by first | ((with_reducible refine blk_at ?_); simp; done) | ((with_reducible refine blk_gw (blk_at ?_)); simp; done) | ((with_reducible refine blk_alloc (blk_at ?_)); simp; done) | ((with_reducible refine blk_gw (blk_alloc (blk_at ?_))); simp; done) | with_reducible assumption))) | (go_at_call 25; (with_reducible show Calls _ _ (#[Value.slice _ 4 _]) _ _); exact gw_call (rfp4_b _ _ _ _ _ _ _ _ _ _ _ _ (by first | ((with_reducible refine blk_at ?_); simp; done) | ((with_reducible refine blk_gw (blk_at ?_)); simp; done) | ((with_reducible refine blk_alloc (blk_at ?_)); simp; done) | ((with_reducible refine blk_gw (blk_alloc (blk_at ?_))); simp; done) | with_reducible assumption))) | (go_at_call 25; (with_reducible show Calls _ _ (#[Value.slice _ (List.length _) _]) _ _); exact gw_call (rfp_b _ _ _ _ (Pts.to (by with_reducible assumption) (by repeat (first | with_reducible exact Below.refl _ _ | with_reducible assumption | refine bgw ?_ (by first | (simp; done) | (simp; omega) | omega) _ | refine Below.setCell ?_ (by first | exact Nat.le_of_not_lt (by assumption) | (simp; done) | (simp; omega) | omega) _ | refine Below.alloc ?_ (by first | (simp; done) | (simp; omega) | omega) _ | refine Below.drew ?_))) (by with_reducible assumption))) | (go_at_call 16; (first | (exact gw_call (boolIs (rxovl_b _ _ _ _ _ _ _ _ _) (b := true) (by assumption))) | (exact gw_call (boolIs (rxovl_b _ _ _ _ _ _ _ _ _) (b := false) (by assumption))) | (exact gw_call (rxovl_b _ _ _ _ _ _ _ _ _)))) | (go_at_call 38; exact gw_call (rorient_b _ _ _ _ _ _ _)))))
        refine wpQuiet_nil ?_
        intro w1 hw1
        obtain ⟨q, rfl⟩ := hw1
        go_wp2_with (first | (go_at_call 25; (with_reducible show Calls _ _ (#[Value.slice _ 2 _]) _ _); refine Calls.mono (gw_at (rfp2_b _ _ _ _ _ _ _ _ (by first | ((with_reducible refine blk_at ?_); simp; done) | ((with_reducible refine blk_gw (blk_at ?_)); simp; done) | ((with_reducible refine blk_alloc (blk_at ?_)); simp; done) | ((with_reducible refine blk_gw (blk_alloc (blk_at ?_))); simp; done) | with_reducible assumption))) ?_; rintro e w1 ⟨rfl, q, rfl⟩) | (go_at_call 25; (with_reducible show Calls _ _ (#[Value.slice _ 4 _]) _ _); refine Calls.mono (gw_at (rfp4_b _ _ _ _ _ _ _ _ _ _ _ _ (by first | ((with_reducible refine blk_at ?_); simp; done) | ((with_reducible refine blk_gw (blk_at ?_)); simp; done) | ((with_reducible refine blk_alloc (blk_at ?_)); simp; done) | ((with_reducible refine blk_gw (blk_alloc (blk_at ?_))); simp; done) | with_reducible assumption))) ?_; rintro e w1 ⟨rfl, q, rfl⟩) | (go_at_call 25; (with_reducible show Calls _ _ (#[Value.slice _ (List.length _) _]) _ _); refine Calls.mono (gw_at (rfp_b _ _ _ _ (Pts.to (by with_reducible assumption) (by repeat (first | with_reducible exact Below.refl _ _ | with_reducible assumption | refine bgw ?_ (by first | (simp; done) | (simp; omega) | omega) _ | refine Below.setCell ?_ (by first | exact Nat.le_of_not_lt (by assumption) | (simp; done) | (simp; omega) | omega) _ | refine Below.alloc ?_ (by first | (simp; done) | (simp; omega) | omega) _ | refine Below.drew ?_))) (by with_reducible assumption))) ?_; rintro e w1 ⟨rfl, q, rfl⟩) | (go_at_call 16; (first | (refine Calls.mono (gw_at (boolIs (rxovl_b _ _ _ _ _ _ _ _ _) (b := true) (by assumption))) ?_; rintro e w1 ⟨rfl, q, rfl⟩) | (refine Calls.mono (gw_at (boolIs (rxovl_b _ _ _ _ _ _ _ _ _) (b := false) (by assumption))) ?_; rintro e w1 ⟨rfl, q, rfl⟩) | (refine Calls.mono (gw_at (rxovl_b _ _ _ _ _ _ _ _ _)) ?_; rintro e w1 ⟨rfl, q, rfl⟩))) | (go_at_call 38; refine Calls.mono (gw_at (rorient_b _ _ _ _ _ _ _)) ?_; rintro e w1 ⟨rfl, q, rfl⟩))
        refine ⟨⟨k + 1, by omega, ?_, ?_, by go_num, gw_gw W p _⟩, by (try go_num); simp [intOf]; (try omega)⟩
        · rw [show Bx.count ⟨x0, y0, x1, y1⟩ fx fy tx ty 1 (k + 1) = Bx.count ⟨x0, y0, x1, y1⟩ fx fy tx ty 1 k + 1 from by rw [Bx.count, if_pos s1]]; try go_num
        · rw [show Bx.count ⟨x0, y0, x1, y1⟩ fx fy tx ty (-1) (k + 1) = Bx.count ⟨x0, y0, x1, y1⟩ fx fy tx ty (-1) k from by rw [Bx.count, if_neg (by omega)]; try omega]
      · by_cases s2 : Bx.side ⟨x0, y0, x1, y1⟩ fx fy tx ty k = -1
        · have t1 : (orient fx fy tx ty (Bx.cx ⟨x0, y0, x1, y1⟩ k) (Bx.cy ⟨x0, y0, x1, y1⟩ k) == 1) = false := by rw [beq_eq_false_iff_ne]; exact s1
          have t2 : (orient fx fy tx ty (Bx.cx ⟨x0, y0, x1, y1⟩ k) (Bx.cy ⟨x0, y0, x1, y1⟩ k) == -1) = true := by rw [beq_iff_eq]; exact s2
          go_wp2_with (first | (go_at_call 25; (with_reducible show Calls _ _ (#[Value.slice _ 2 _]) _ _); refine Calls.mono (gw_at (rfp2_b _ _ _ _ _ _ _ _ (by first | ((with_reducible refine blk_at ?_); simp; done) | ((with_reducible refine blk_gw (blk_at ?_)); simp; done) | ((with_reducible refine blk_alloc (blk_at ?_)); simp; done) | ((with_reducible refine blk_gw (blk_alloc (blk_at ?_))); simp; done) | with_reducible assumption))) ?_; rintro e w1 ⟨rfl, q, rfl⟩) | (go_at_call 25; (with_reducible show Calls _ _ (#[Value.slice _ 4 _]) _ _); refine Calls.mono (gw_at (rfp4_b _ _ _ _ _ _ _ _ _ _ _ _ (by first | ((with_reducible refine blk_at ?_); simp; done) | ((with_reducible refine blk_gw (blk_at ?_)); simp; done) | ((with_reducible refine blk_alloc (blk_at ?_)); simp; done) | ((with_reducible refine blk_gw (blk_alloc (blk_at ?_))); simp; done) | with_reducible assumption))) ?_; rintro e w1 ⟨rfl, q, rfl⟩) | (go_at_call 25; (with_reducible show Calls _ _ (#[Value.slice _ (List.length _) _]) _ _); refine Calls.mono (gw_at (rfp_b _ _ _ _ (Pts.to (by with_reducible assumption) (by repeat (first | with_reducible exact Below.refl _ _ | with_reducible assumption | refine bgw ?_ (by first | (simp; done) | (simp; omega) | omega) _ | refine Below.setCell ?_ (by first | exact Nat.le_of_not_lt (by assumption) | (simp; done) | (simp; omega) | omega) _ | refine Below.alloc ?_ (by first | (simp; done) | (simp; omega) | omega) _ | refine Below.drew ?_))) (by with_reducible assumption))) ?_; rintro e w1 ⟨rfl, q, rfl⟩) | (go_at_call 16; (first | (refine Calls.mono (gw_at (boolIs (rxovl_b _ _ _ _ _ _ _ _ _) (b := true) (by assumption))) ?_; rintro e w1 ⟨rfl, q, rfl⟩) | (refine Calls.mono (gw_at (boolIs (rxovl_b _ _ _ _ _ _ _ _ _) (b := false) (by assumption))) ?_; rintro e w1 ⟨rfl, q, rfl⟩) | (refine Calls.mono (gw_at (rxovl_b _ _ _ _ _ _ _ _ _)) ?_; rintro e w1 ⟨rfl, q, rfl⟩))) | (go_at_call 38; refine Calls.mono (gw_at (rorient_b _ _ _ _ _ _ _)) ?_; rintro e w1 ⟨rfl, q, rfl⟩))
          refine wp_region_gw (by kernel_rfl) (by kernel_rfl) ?_
          repeat (go_big_quiet_step ((first | (go_at_call 25; (with_reducible show Calls _ _ (#[Value.slice _ 2 _]) _ _); exact gw_call (rfp2_b _ _ _ _ _ _ _ _ (by first | ((with_reducible refine blk_at ?_); simp; done) | ((with_reducible refine blk_gw (blk_at ?_)); simp; done) | ((with_reducible refine blk_alloc (blk_at ?_)); simp; done) | ((with_reducible refine blk_gw (blk_alloc (blk_at ?_))); simp; done) | with_reducible assumption))) | (go_at_call 25; (with_reducible show Calls _ _ (#[Value.slice _ 4 _]) _ _); exact gw_call (rfp4_b _ _ _ _ _ _ _ _ _ _ _ _ (by first | ((with_reducible refine blk_at ?_); simp; done) | ((with_reducible refine blk_gw (blk_at ?_)); simp; done) | ((with_reducible refine blk_alloc (blk_at ?_)); simp; done) | ((with_reducible refine blk_gw (blk_alloc (blk_at ?_))); simp; done) | with_reducible assumption))) | (go_at_call 25; (with_reducible show Calls _ _ (#[Value.slice _ (List.length _) _]) _ _); exact gw_call (rfp_b _ _ _ _ (Pts.to (by with_reducible assumption) (by repeat (first | with_reducible exact Below.refl _ _ | with_reducible assumption | refine bgw ?_ (by first | (simp; done) | (simp; omega) | omega) _ | refine Below.setCell ?_ (by first | exact Nat.le_of_not_lt (by assumption) | (simp; done) | (simp; omega) | omega) _ | refine Below.alloc ?_ (by first | (simp; done) | (simp; omega) | omega) _ | refine Below.drew ?_))) (by with_reducible assumption))) | (go_at_call 16; (first | (exact gw_call (boolIs (rxovl_b _ _ _ _ _ _ _ _ _) (b := true) (by assumption))) | (exact gw_call (boolIs (rxovl_b _ _ _ _ _ _ _ _ _) (b := false) (by assumption))) | (exact gw_call (rxovl_b _ _ _ _ _ _ _ _ _)))) | (go_at_call 38; exact gw_call (rorient_b _ _ _ _ _ _ _)))))
          refine wpQuiet_nil ?_
          intro w1 hw1
          obtain ⟨q, rfl⟩ := hw1
          go_wp2_with (first | (go_at_call 25; (with_reducible show Calls _ _ (#[Value.slice _ 2 _]) _ _); refine Calls.mono (gw_at (rfp2_b _ _ _ _ _ _ _ _ (by first | ((with_reducible refine blk_at ?_); simp; done) | ((with_reducible refine blk_gw (blk_at ?_)); simp; done) | ((with_reducible refine blk_alloc (blk_at ?_)); simp; done) | ((with_reducible refine blk_gw (blk_alloc (blk_at ?_))); simp; done) | with_reducible assumption))) ?_; rintro e w1 ⟨rfl, q, rfl⟩) | (go_at_call 25; (with_reducible show Calls _ _ (#[Value.slice _ 4 _]) _ _); refine Calls.mono (gw_at (rfp4_b _ _ _ _ _ _ _ _ _ _ _ _ (by first | ((with_reducible refine blk_at ?_); simp; done) | ((with_reducible refine blk_gw (blk_at ?_)); simp; done) | ((with_reducible refine blk_alloc (blk_at ?_)); simp; done) | ((with_reducible refine blk_gw (blk_alloc (blk_at ?_))); simp; done) | with_reducible assumption))) ?_; rintro e w1 ⟨rfl, q, rfl⟩) | (go_at_call 25; (with_reducible show Calls _ _ (#[Value.slice _ (List.length _) _]) _ _); refine Calls.mono (gw_at (rfp_b _ _ _ _ (Pts.to (by with_reducible assumption) (by repeat (first | with_reducible exact Below.refl _ _ | with_reducible assumption | refine bgw ?_ (by first | (simp; done) | (simp; omega) | omega) _ | refine Below.setCell ?_ (by first | exact Nat.le_of_not_lt (by assumption) | (simp; done) | (simp; omega) | omega) _ | refine Below.alloc ?_ (by first | (simp; done) | (simp; omega) | omega) _ | refine Below.drew ?_))) (by with_reducible assumption))) ?_; rintro e w1 ⟨rfl, q, rfl⟩) | (go_at_call 16; (first | (refine Calls.mono (gw_at (boolIs (rxovl_b _ _ _ _ _ _ _ _ _) (b := true) (by assumption))) ?_; rintro e w1 ⟨rfl, q, rfl⟩) | (refine Calls.mono (gw_at (boolIs (rxovl_b _ _ _ _ _ _ _ _ _) (b := false) (by assumption))) ?_; rintro e w1 ⟨rfl, q, rfl⟩) | (refine Calls.mono (gw_at (rxovl_b _ _ _ _ _ _ _ _ _)) ?_; rintro e w1 ⟨rfl, q, rfl⟩))) | (go_at_call 38; refine Calls.mono (gw_at (rorient_b _ _ _ _ _ _ _)) ?_; rintro e w1 ⟨rfl, q, rfl⟩))
          refine ⟨⟨k + 1, by omega, ?_, ?_, by go_num, gw_gw W p _⟩, by (try go_num); simp [intOf]; (try omega)⟩
          · rw [show Bx.count ⟨x0, y0, x1, y1⟩ fx fy tx ty 1 (k + 1) = Bx.count ⟨x0, y0, x1, y1⟩ fx fy tx ty 1 k from by rw [Bx.count, if_neg s1]; try omega]
          · rw [show Bx.count ⟨x0, y0, x1, y1⟩ fx fy tx ty (-1) (k + 1) = Bx.count ⟨x0, y0, x1, y1⟩ fx fy tx ty (-1) k + 1 from by rw [Bx.count, if_pos s2]]; try go_num
        · have t1 : (orient fx fy tx ty (Bx.cx ⟨x0, y0, x1, y1⟩ k) (Bx.cy ⟨x0, y0, x1, y1⟩ k) == 1) = false := by rw [beq_eq_false_iff_ne]; exact s1
          have t2 : (orient fx fy tx ty (Bx.cx ⟨x0, y0, x1, y1⟩ k) (Bx.cy ⟨x0, y0, x1, y1⟩ k) == -1) = false := by rw [beq_eq_false_iff_ne]; exact s2
          go_wp2_with (first | (go_at_call 25; (with_reducible show Calls _ _ (#[Value.slice _ 2 _]) _ _); refine Calls.mono (gw_at (rfp2_b _ _ _ _ _ _ _ _ (by first | ((with_reducible refine blk_at ?_); simp; done) | ((with_reducible refine blk_gw (blk_at ?_)); simp; done) | ((with_reducible refine blk_alloc (blk_at ?_)); simp; done) | ((with_reducible refine blk_gw (blk_alloc (blk_at ?_))); simp; done) | with_reducible assumption))) ?_; rintro e w1 ⟨rfl, q, rfl⟩) | (go_at_call 25; (with_reducible show Calls _ _ (#[Value.slice _ 4 _]) _ _); refine Calls.mono (gw_at (rfp4_b _ _ _ _ _ _ _ _ _ _ _ _ (by first | ((with_reducible refine blk_at ?_); simp; done) | ((with_reducible refine blk_gw (blk_at ?_)); simp; done) | ((with_reducible refine blk_alloc (blk_at ?_)); simp; done) | ((with_reducible refine blk_gw (blk_alloc (blk_at ?_))); simp; done) | with_reducible assumption))) ?_; rintro e w1 ⟨rfl, q, rfl⟩) | (go_at_call 25; (with_reducible show Calls _ _ (#[Value.slice _ (List.length _) _]) _ _); refine Calls.mono (gw_at (rfp_b _ _ _ _ (Pts.to (by with_reducible assumption) (by repeat (first | with_reducible exact Below.refl _ _ | with_reducible assumption | refine bgw ?_ (by first | (simp; done) | (simp; omega) | omega) _ | refine Below.setCell ?_ (by first | exact Nat.le_of_not_lt (by assumption) | (simp; done) | (simp; omega) | omega) _ | refine Below.alloc ?_ (by first | (simp; done) | (simp; omega) | omega) _ | refine Below.drew ?_))) (by with_reducible assumption))) ?_; rintro e w1 ⟨rfl, q, rfl⟩) | (go_at_call 16; (first | (refine Calls.mono (gw_at (boolIs (rxovl_b _ _ _ _ _ _ _ _ _) (b := true) (by assumption))) ?_; rintro e w1 ⟨rfl, q, rfl⟩) | (refine Calls.mono (gw_at (boolIs (rxovl_b _ _ _ _ _ _ _ _ _) (b := false) (by assumption))) ?_; rintro e w1 ⟨rfl, q, rfl⟩) | (refine Calls.mono (gw_at (rxovl_b _ _ _ _ _ _ _ _ _)) ?_; rintro e w1 ⟨rfl, q, rfl⟩))) | (go_at_call 38; refine Calls.mono (gw_at (rorient_b _ _ _ _ _ _ _)) ?_; rintro e w1 ⟨rfl, q, rfl⟩))
          refine wp_region_gw (by kernel_rfl) (by kernel_rfl) ?_
          repeat (go_big_quiet_step ((first | (go_at_call 25; (with_reducible show Calls _ _ (#[Value.slice _ 2 _]) _ _); exact gw_call (rfp2_b _ _ _ _ _ _ _ _ (by first | ((with_reducible refine blk_at ?_); simp; done) | ((with_reducible refine blk_gw (blk_at ?_)); simp; done) | ((with_reducible refine blk_alloc (blk_at ?_)); simp; done) | ((with_reducible refine blk_gw (blk_alloc (blk_at ?_))); simp; done) | with_reducible assumption))) | (go_at_call 25; (with_reducible show Calls _ _ (#[Value.slice _ 4 _]) _ _); exact gw_call (rfp4_b _ _ _ _ _ _ _ _ _ _ _ _ (by first | ((with_reducible refine blk_at ?_); simp; done) | ((with_reducible refine blk_gw (blk_at ?_)); simp; done) | ((with_reducible refine blk_alloc (blk_at ?_)); simp; done) | ((with_reducible refine blk_gw (blk_alloc (blk_at ?_))); simp; done) | with_reducible assumption))) | (go_at_call 25; (with_reducible show Calls _ _ (#[Value.slice _ (List.length _) _]) _ _); exact gw_call (rfp_b _ _ _ _ (Pts.to (by with_reducible assumption) (by repeat (first | with_reducible exact Below.refl _ _ | with_reducible assumption | refine bgw ?_ (by first | (simp; done) | (simp; omega) | omega) _ | refine Below.setCell ?_ (by first | exact Nat.le_of_not_lt (by assumption) | (simp; done) | (simp; omega) | omega) _ | refine Below.alloc ?_ (by first | (simp; done) | (simp; omega) | omega) _ | refine Below.drew ?_))) (by with_reducible assumption))) | (go_at_call 16; (first | (exact gw_call (boolIs (rxovl_b _ _ _ _ _ _ _ _ _) (b := true) (by assumption))) | (exact gw_call (boolIs (rxovl_b _ _ _ _ _ _ _ _ _) (b := false) (by assumption))) | (exact gw_call (rxovl_b _ _ _ _ _ _ _ _ _)))) | (go_at_call 38; exact gw_call (rorient_b _ _ _ _ _ _ _)))))
          refine wpQuiet_nil ?_
          intro w1 hw1
          obtain ⟨q, rfl⟩ := hw1
          go_wp2_with (first | (go_at_call 25; (with_reducible show Calls _ _ (#[Value.slice _ 2 _]) _ _); refine Calls.mono (gw_at (rfp2_b _ _ _ _ _ _ _ _ (by first | ((with_reducible refine blk_at ?_); simp; done) | ((with_reducible refine blk_gw (blk_at ?_)); simp; done) | ((with_reducible refine blk_alloc (blk_at ?_)); simp; done) | ((with_reducible refine blk_gw (blk_alloc (blk_at ?_))); simp; done) | with_reducible assumption))) ?_; rintro e w1 ⟨rfl, q, rfl⟩) | (go_at_call 25; (with_reducible show Calls _ _ (#[Value.slice _ 4 _]) _ _); refine Calls.mono (gw_at (rfp4_b _ _ _ _ _ _ _ _ _ _ _ _ (by first | ((with_reducible refine blk_at ?_); simp; done) | ((with_reducible refine blk_gw (blk_at ?_)); simp; done) | ((with_reducible refine blk_alloc (blk_at ?_)); simp; done) | ((with_reducible refine blk_gw (blk_alloc (blk_at ?_))); simp; done) | with_reducible assumption))) ?_; rintro e w1 ⟨rfl, q, rfl⟩) | (go_at_call 25; (with_reducible show Calls _ _ (#[Value.slice _ (List.length _) _]) _ _); refine Calls.mono (gw_at (rfp_b _ _ _ _ (Pts.to (by with_reducible assumption) (by repeat (first | with_reducible exact Below.refl _ _ | with_reducible assumption | refine bgw ?_ (by first | (simp; done) | (simp; omega) | omega) _ | refine Below.setCell ?_ (by first | exact Nat.le_of_not_lt (by assumption) | (simp; done) | (simp; omega) | omega) _ | refine Below.alloc ?_ (by first | (simp; done) | (simp; omega) | omega) _ | refine Below.drew ?_))) (by with_reducible assumption))) ?_; rintro e w1 ⟨rfl, q, rfl⟩) | (go_at_call 16; (first | (refine Calls.mono (gw_at (boolIs (rxovl_b _ _ _ _ _ _ _ _ _) (b := true) (by assumption))) ?_; rintro e w1 ⟨rfl, q, rfl⟩) | (refine Calls.mono (gw_at (boolIs (rxovl_b _ _ _ _ _ _ _ _ _) (b := false) (by assumption))) ?_; rintro e w1 ⟨rfl, q, rfl⟩) | (refine Calls.mono (gw_at (rxovl_b _ _ _ _ _ _ _ _ _)) ?_; rintro e w1 ⟨rfl, q, rfl⟩))) | (go_at_call 38; refine Calls.mono (gw_at (rorient_b _ _ _ _ _ _ _)) ?_; rintro e w1 ⟨rfl, q, rfl⟩))
          refine ⟨⟨k + 1, by omega, ?_, ?_, by go_num, gw_gw W p _⟩, by (try go_num); simp [intOf]; (try omega)⟩
          · rw [show Bx.count ⟨x0, y0, x1, y1⟩ fx fy tx ty 1 (k + 1) = Bx.count ⟨x0, y0, x1, y1⟩ fx fy tx ty 1 k from by rw [Bx.count, if_neg s1]; try omega]
          · rw [show Bx.count ⟨x0, y0, x1, y1⟩ fx fy tx ty (-1) (k + 1) = Bx.count ⟨x0, y0, x1, y1⟩ fx fy tx ty (-1) k from by rw [Bx.count, if_neg s2]; try omega]
    · obtain rfl : k = 4 := by omega
      go_wp2_with (first | (go_at_call 25; (with_reducible show Calls _ _ (#[Value.slice _ 2 _]) _ _); refine Calls.mono (gw_at (rfp2_b _ _ _ _ _ _ _ _ (by first | ((with_reducible refine blk_at ?_); simp; done) | ((with_reducible refine blk_gw (blk_at ?_)); simp; done) | ((with_reducible refine blk_alloc (blk_at ?_)); simp; done) | ((with_reducible refine blk_gw (blk_alloc (blk_at ?_))); simp; done) | with_reducible assumption))) ?_; rintro e w1 ⟨rfl, q, rfl⟩) | (go_at_call 25; (with_reducible show Calls _ _ (#[Value.slice _ 4 _]) _ _); refine Calls.mono (gw_at (rfp4_b _ _ _ _ _ _ _ _ _ _ _ _ (by first | ((with_reducible refine blk_at ?_); simp; done) | ((with_reducible refine blk_gw (blk_at ?_)); simp; done) | ((with_reducible refine blk_alloc (blk_at ?_)); simp; done) | ((with_reducible refine blk_gw (blk_alloc (blk_at ?_))); simp; done) | with_reducible assumption))) ?_; rintro e w1 ⟨rfl, q, rfl⟩) | (go_at_call 25; (with_reducible show Calls _ _ (#[Value.slice _ (List.length _) _]) _ _); refine Calls.mono (gw_at (rfp_b _ _ _ _ (Pts.to (by with_reducible assumption) (by repeat (first | with_reducible exact Below.refl _ _ | with_reducible assumption | refine bgw ?_ (by first | (simp; done) | (simp; omega) | omega) _ | refine Below.setCell ?_ (by first | exact Nat.le_of_not_lt (by assumption) | (simp; done) | (simp; omega) | omega) _ | refine Below.alloc ?_ (by first | (simp; done) | (simp; omega) | omega) _ | refine Below.drew ?_))) (by with_reducible assumption))) ?_; rintro e w1 ⟨rfl, q, rfl⟩) | (go_at_call 16; (first | (refine Calls.mono (gw_at (boolIs (rxovl_b _ _ _ _ _ _ _ _ _) (b := true) (by assumption))) ?_; rintro e w1 ⟨rfl, q, rfl⟩) | (refine Calls.mono (gw_at (boolIs (rxovl_b _ _ _ _ _ _ _ _ _) (b := false) (by assumption))) ?_; rintro e w1 ⟨rfl, q, rfl⟩) | (refine Calls.mono (gw_at (rxovl_b _ _ _ _ _ _ _ _ _)) ?_; rintro e w1 ⟨rfl, q, rfl⟩))) | (go_at_call 38; refine Calls.mono (gw_at (rorient_b _ _ _ _ _ _ _)) ?_; rintro e w1 ⟨rfl, q, rfl⟩))
      all_goals (go_ret; refine ⟨?_, (by repeat (first | with_reducible exact Below.refl _ _ | with_reducible assumption | refine bgw ?_ (by first | (simp; done) | (simp; omega) | omega) _ | refine Below.setCell ?_ (by first | exact Nat.le_of_not_lt (by assumption) | (simp; done) | (simp; omega) | omega) _ | refine Below.alloc ?_ (by first | (simp; done) | (simp; omega) | omega) _ | refine Below.drew ?_))⟩; simp [seg8, Bx.seg, h0]; try omega)

end Go.Proofs.Ytgghkgihlfkmeaa
