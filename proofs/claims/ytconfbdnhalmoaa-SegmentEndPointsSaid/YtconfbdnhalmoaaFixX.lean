/- Contracts of package aabb and of its reference: each returns what the Lean functions of the same meaning give, and nothing that existed has changed. No conditions. -/
import Derived.Test.YtconfbdnhalmoaaFixBl
import Derived.Test.YtconfbdnhalmoaaBox
import Derived.Test.YtconfbdnhalmoaaCor
import Derived.Test.YtconfbdnhalmoaaBx
import Derived.Test.YtconfbdnhalmoaaFixV
import Derived.Outline
set_option linter.unusedVariables false
namespace Go.Proofs.Ytconfbdnhalmoaa
open Go.RowKit Fx

theorem rxsat_b (x y : Int) (w : World) : Calls Try.prog 59 #[.agg #[.int .i64 x, .int .i64 y]] w fun e w' => e = .returned (.agg #[.int .i64 (sat x), .int .i64 (sat y)]) ∧ Below w.heap.size w w' := by
  go_enter Try.func59, Try.ntmps59
  go_wp2_with (first | (go_at_call 34; refine Calls.mono (gw_at (rsat_b _ _)) ?_; rintro e w1 ⟨rfl, q, rfl⟩))
  repeat
    refine wp_region_gw_tail 7 (by kernel_rfl) (by kernel_rfl) ?_
    simp only [List.take_succ_cons, List.take_zero, List.drop_succ_cons, List.drop_zero]
    repeat (go_big_quiet_step ((first | (go_at_call 34; exact gw_call (rsat_b _ _)))))
    refine wpQuiet_nil ?_
    intro w1 hw1
    obtain ⟨q, rfl⟩ := hw1
    go_wp2_with (first | (go_at_call 34; refine Calls.mono (gw_at (rsat_b _ _)) ?_; rintro e w1 ⟨rfl, q, rfl⟩))
  exact bodyPost_ret (v := .agg #[.int .i64 (sat x), .int .i64 (sat y)]) (by simp [results, Try.results59, go_sem]; try (first | with_reducible rfl | exact ⟨rfl, rfl⟩ | exact ⟨rfl, rfl, rfl⟩ | exact ⟨rfl, rfl, rfl, rfl⟩ | exact ⟨rfl, rfl, rfl, rfl, rfl⟩ | exact ⟨rfl, rfl, rfl, rfl, rfl, rfl⟩ | rfl)) rfl ⟨rfl, (by repeat (first | with_reducible exact Below.refl _ _ | with_reducible assumption | refine bgw ?_ (by first | (simp; done) | (simp; omega) | omega) _ | refine Below.setCell ?_ (by first | exact Nat.le_of_not_lt (by assumption) | (simp; done) | (simp; omega) | omega) _ | refine Below.alloc ?_ (by first | (simp; done) | (simp; omega) | omega) _ | refine Below.drew ?_))⟩

theorem rxval_b (x0 y0 x1 y1 : Int) (w : World) : Calls Try.prog 60 #[.agg #[.int .i64 x0, .int .i64 y0, .int .i64 x1, .int .i64 y1]] w fun e w' => e = .returned (.bool (val4 x0 y0 x1 y1)) ∧ Below w.heap.size w w' := by
  unfold val4
  have h := Bx.val_cases ⟨x0, y0, x1, y1⟩
  dsimp only at h
  rcases h with ⟨e, h1⟩ | ⟨e, h1, h2⟩ | ⟨e, h1, h2, h3⟩ | ⟨e, h1, h2, h3, h4⟩ | ⟨e, h1, h2, h3, h4, h5⟩ | ⟨e, h1, h2, h3, h4, h5, h6⟩ | ⟨e, h1, h2, h3, h4, h5, h6⟩
  all_goals
    rw [e]
    clear e
    go_enter Try.func60, Try.ntmps60
    go_wp2_with (first | (go_at_call 59; refine Calls.mono (gw_at (rxsat_b _ _ _)) ?_; rintro e w1 ⟨rfl, q, rfl⟩))
    repeat
      refine wp_region_gw (by kernel_rfl) (by kernel_rfl) ?_
      repeat (go_big_quiet_step ((first | (go_at_call 59; exact gw_call (rxsat_b _ _ _)))))
      refine wpQuiet_nil ?_
      intro w1 hw1
      obtain ⟨q, rfl⟩ := hw1
      go_wp2_with (first | (go_at_call 59; refine Calls.mono (gw_at (rxsat_b _ _ _)) ?_; rintro e w1 ⟨rfl, q, rfl⟩))
    go_ret
    exact ⟨rfl, (by repeat (first | with_reducible exact Below.refl _ _ | with_reducible assumption | refine bgw ?_ (by first | (simp; done) | (simp; omega) | omega) _ | refine Below.setCell ?_ (by first | exact Nat.le_of_not_lt (by assumption) | (simp; done) | (simp; omega) | omega) _ | refine Below.alloc ?_ (by first | (simp; done) | (simp; omega) | omega) _ | refine Below.drew ?_))⟩

theorem rfp0_b (A : Option Addr) (cap : Nat) (w : World) : Calls Try.prog 40 #[.slice A 0 cap] w fun e w' => e = .returned (.tuple #[.agg #[.int .i64 0, .int .i64 0, .int .i64 0, .int .i64 0], .bool false]) ∧ Below w.heap.size w w' := by
  go_enter Try.func40, Try.ntmps40
  go_wp2_with (first | (go_at_call 59; refine Calls.mono (gw_at (rxsat_b _ _ _)) ?_; rintro e w1 ⟨rfl, q, rfl⟩))
  exact bodyPost_ret (v := .tuple #[.agg #[.int .i64 0, .int .i64 0, .int .i64 0, .int .i64 0], .bool false]) (by simp [results, Try.results40, go_sem]) rfl ⟨rfl, (by repeat (first | with_reducible exact Below.refl _ _ | with_reducible assumption | refine bgw ?_ (by first | (simp; done) | (simp; omega) | omega) _ | refine Below.setCell ?_ (by first | exact Nat.le_of_not_lt (by assumption) | (simp; done) | (simp; omega) | omega) _ | refine Below.alloc ?_ (by first | (simp; done) | (simp; omega) | omega) _ | refine Below.drew ?_))⟩

theorem rfp1_b (b off cap : Nat) (ps : List (Int × Int)) (w : World) (hn : 0 < ps.length) (hl : ps.length ≤ 4611686018427387904) (hc : ∀ i (h : i < ps.length), w.cell? ⟨b, off + i * 2, none⟩ = some (.int .i64 ps[i].1) ∧ w.cell? ⟨b, off + i * 2 + 1, none⟩ = some (.int .i64 ps[i].2)) : Calls Try.prog 40 #[.slice (some ⟨b, off, none⟩) ps.length cap] w fun e w' => e = .returned (.tuple #[.agg #[.int .i64 (Bx.pts ps).x0, .int .i64 (Bx.pts ps).y0, .int .i64 (Bx.pts ps).x1, .int .i64 (Bx.pts ps).y1], .bool true]) ∧ Below w.heap.size w w' := by
  obtain ⟨c0, c1⟩ := hc 0 hn
  have ob := older_of_cell c0
  have hn' : (0 : Int) < (ps.length : Int) := by omega
  simp only [Nat.zero_mul, Nat.add_zero] at c0 c1
  go_enter Try.func40, Try.ntmps40
  go_wp2_with (first | (go_at_call 59; refine Calls.mono (gw_at (rxsat_b _ _ _)) ?_; rintro e w1 ⟨rfl, q, rfl⟩))
  have e1 : Bx.pts (ps.take 1) = Bx.one ps[0] := Bx.pts_one hn
  have g5 : w.heap.size < w.heap.size + 1 + q.os.size + 1 := by omega
  generalize hB5 : w.heap.size + 1 + q.os.size + 1 = B5 at *
  go_loopw [6] (fun i wr => ∃ k : Nat, 1 ≤ k ∧ k ≤ ps.length ∧ i = .int .i64 k ∧ blk wr B5 #[.int .i64 (Bx.pts (ps.take k)).x0, .int .i64 (Bx.pts (ps.take k)).y0, .int .i64 (Bx.pts (ps.take k)).x1, .int .i64 (Bx.pts (ps.take k)).y1] 36 ∧
      blk wr w.heap.size #[.int .i64 0, .int .i64 0, .int .i64 0, .int .i64 0] 36 ∧ Below w.heap.size w wr)
    (fun i _ => (ps.length - intOf i).toNat)
  case atStart =>
    refine ⟨1, by omega, by omega, rfl, ?_, ?_, (by repeat (first | with_reducible exact Below.refl _ _ | with_reducible assumption | refine bgw ?_ (by first | (simp; done) | (simp; omega) | omega) _ | refine Below.setCell ?_ (by first | exact Nat.le_of_not_lt (by assumption) | (simp; done) | (simp; omega) | omega) _ | refine Below.alloc ?_ (by first | (simp; done) | (simp; omega) | omega) _ | refine Below.drew ?_))⟩
    · rw [e1]; exact blk_at (by simp; omega)
    · exact blk_alloc (blk_alloc (blk_gw (blk_new _ _ _)))
  case round =>
    obtain ⟨k, k1, k2, rfl, h5, h2, hbw⟩ := hrel
    have oh5 := blk_older h5
    have ch5_0 : _ = some _ := blk_cell h5 0
    have ch5_1 : _ = some _ := blk_cell h5 1
    have ch5_2 : _ = some _ := blk_cell h5 2
    have ch5_3 : _ = some _ := blk_cell h5 3
    have fh5_0 := blk_free h5 0
    have fh5_1 := blk_free h5 1
    have fh5_2 := blk_free h5 2
    have fh5_3 := blk_free h5 3
    have oh2 := blk_older h2
    have ch2_0 : _ = some _ := blk_cell h2 0
    have ch2_1 : _ = some _ := blk_cell h2 1
    have ch2_2 : _ = some _ := blk_cell h2 2
    have ch2_3 : _ = some _ := blk_cell h2 3
    have fh2_0 := blk_free h2 0
    have fh2_1 := blk_free h2 1
    have fh2_2 := blk_free h2 2
    have fh2_3 := blk_free h2 3
    have hsz := hbw.size
    by_cases hlt : k < ps.length
    · obtain ⟨d0, d1⟩ := hc k hlt
      have hob := World.block_lt_of_cell? w ⟨b, off + k * 2, none⟩ d0
      have d0' : wr.cell? ⟨b, off + k * 2, none⟩ = some (.int .i64 ps[k].1) := (hbw.cell (p := ⟨b, off + k * 2, none⟩) hob).trans d0
      have d1' : wr.cell? ⟨b, off + k * 2 + 1, none⟩ = some (.int .i64 ps[k].2) := (hbw.cell (p := ⟨b, off + k * 2 + 1, none⟩) hob).trans d1
      have odb := older_of_cell d0'
      have i0 : (0 : Int) ≤ (k : Int) := by omega
      have i1 : (k : Int) < (ps.length : Int) := by omega
      clear c0 c1 d0 d1
      go_wp2_with (first | (go_at_call 59; refine Calls.mono (gw_at (rxsat_b _ _ _)) ?_; rintro e w1 ⟨rfl, q, rfl⟩))
      refine ⟨⟨k + 1, by omega, by omega, by go_num, ?_, ?_, (by repeat (first | with_reducible exact Below.refl _ _ | with_reducible assumption | refine bgw ?_ (by first | (simp; done) | (simp; omega) | omega) _ | refine Below.setCell ?_ (by first | exact Nat.le_of_not_lt (by assumption) | (simp; done) | (simp; omega) | omega) _ | refine Below.alloc ?_ (by first | (simp; done) | (simp; omega) | omega) _ | refine Below.drew ?_))⟩, by (try go_num); simp [intOf]; (try omega)⟩
      · rw [Bx.pts_succ k1 hlt]; exact (by apply blk_of; (repeat (first | with_reducible exact h5 | with_reducible apply blk_drew | with_reducible apply blk_gw | with_reducible apply blk_alloc | with_reducible apply blk_set | ((with_reducible apply blk_other); focus omega))); (first | rfl | simp))
      · exact (by apply blk_of; (repeat (first | with_reducible exact h2 | with_reducible apply blk_drew | with_reducible apply blk_gw | with_reducible apply blk_alloc | with_reducible apply blk_set | ((with_reducible apply blk_other); focus omega))); (first | rfl | simp))
    · have ek : k = ps.length := by omega
      have i1 : ¬ (k : Int) < (ps.length : Int) := by omega
      have et : ps.take k = ps := by rw [ek]; exact List.take_length
      rw [et] at *
      clear c0 c1
      go_wp2_with (first | (go_at_call 59; refine Calls.mono (gw_at (rxsat_b _ _ _)) ?_; rintro e w1 ⟨rfl, q, rfl⟩))
      exact bodyPost_ret (v := .tuple #[.agg #[.int .i64 (Bx.pts ps).x0, .int .i64 (Bx.pts ps).y0, .int .i64 (Bx.pts ps).x1, .int .i64 (Bx.pts ps).y1], .bool true]) (by simp [results, Try.results40, go_sem, ch2_0, ch2_1, ch2_2, ch2_3]) rfl ⟨rfl, (by repeat (first | with_reducible exact Below.refl _ _ | with_reducible assumption | refine bgw ?_ (by first | (simp; done) | (simp; omega) | omega) _ | refine Below.setCell ?_ (by first | exact Nat.le_of_not_lt (by assumption) | (simp; done) | (simp; omega) | omega) _ | refine Below.alloc ?_ (by first | (simp; done) | (simp; omega) | omega) _ | refine Below.drew ?_))⟩

theorem rfp2_b (ax ay bx b_y : Int) (b cap : Nat) (t : TypeId) (w : World) (h : blk w b #[.int .i64 ax, .int .i64 ay, .int .i64 bx, .int .i64 b_y] t) : Calls Try.prog 40 #[.slice (some ⟨b, 0, none⟩) 2 cap] w fun e w' => e = .returned (.tuple #[.agg #[.int .i64 (min (sat ax) (sat bx)), .int .i64 (min (sat ay) (sat b_y)), .int .i64 (max (sat ax) (sat bx)), .int .i64 (max (sat ay) (sat b_y))], .bool true]) ∧ Below w.heap.size w w' := by
  have k := rfp1_b b 0 cap [(ax, ay), (bx, b_y)] w (by simp) (by simp) (fun i hi => by
    match i, hi with
    | 0, _ => exact ⟨blk_cell h 0, blk_cell h 1⟩
    | 1, _ => exact ⟨blk_cell h 2, blk_cell h 3⟩
    | n + 2, h => simp at h; omega)
  simp only [Bx.pts, List.foldl, Bx.one, Bx.step] at k
  exact k

theorem rfp4_b (ax ay bx b_y cx cy dx dy : Int) (b cap : Nat) (t : TypeId) (w : World) (h : blk w b #[.int .i64 ax, .int .i64 ay, .int .i64 bx, .int .i64 b_y, .int .i64 cx, .int .i64 cy, .int .i64 dx, .int .i64 dy] t) : Calls Try.prog 40 #[.slice (some ⟨b, 0, none⟩) 4 cap] w fun e w' => e = .returned (.tuple #[.agg #[.int .i64 (min (min (min (sat ax) (sat bx)) (sat cx)) (sat dx)), .int .i64 (min (min (min (sat ay) (sat b_y)) (sat cy)) (sat dy)), .int .i64 (max (max (max (sat ax) (sat bx)) (sat cx)) (sat dx)), .int .i64 (max (max (max (sat ay) (sat b_y)) (sat cy)) (sat dy))], .bool true]) ∧ Below w.heap.size w w' := by
  have k := rfp1_b b 0 cap [(ax, ay), (bx, b_y), (cx, cy), (dx, dy)] w (by simp) (by simp) (fun i hi => by
    match i, hi with
    | 0, _ => exact ⟨blk_cell h 0, blk_cell h 1⟩
    | 1, _ => exact ⟨blk_cell h 2, blk_cell h 3⟩
    | 2, _ => exact ⟨blk_cell h 4, blk_cell h 5⟩
    | 3, _ => exact ⟨blk_cell h 6, blk_cell h 7⟩
    | n + 4, h => simp at h; omega)
  simp only [Bx.pts, List.foldl, Bx.one, Bx.step] at k
  exact k

theorem rxovl_b (ax0 ay0 ax1 ay1 bx0 by0 bx1 by1 : Int) (w : World) : Calls Try.prog 42 #[.agg #[.int .i64 ax0, .int .i64 ay0, .int .i64 ax1, .int .i64 ay1], .agg #[.int .i64 bx0, .int .i64 by0, .int .i64 bx1, .int .i64 by1]] w fun e w' => e = .returned (.bool (ovl8 ax0 ay0 ax1 ay1 bx0 by0 bx1 by1)) ∧ Below w.heap.size w w' := by
  cases h1 : val4 ax0 ay0 ax1 ay1
  focus
    go_enter Try.func42, Try.ntmps42
    go_wp2_with (first | (go_at_call 60; (first | (refine Calls.mono (gw_at (boolIs (rxval_b _ _ _ _ _) (b := true) (by assumption))) ?_; rintro e w1 ⟨rfl, q, rfl⟩) | (refine Calls.mono (gw_at (boolIs (rxval_b _ _ _ _ _) (b := false) (by assumption))) ?_; rintro e w1 ⟨rfl, q, rfl⟩) | (refine Calls.mono (gw_at (rxval_b _ _ _ _ _)) ?_; rintro e w1 ⟨rfl, q, rfl⟩))))
    all_goals (go_ret; refine ⟨?_, (by repeat (first | with_reducible exact Below.refl _ _ | with_reducible assumption | refine bgw ?_ (by first | (simp; done) | (simp; omega) | omega) _ | refine Below.setCell ?_ (by first | exact Nat.le_of_not_lt (by assumption) | (simp; done) | (simp; omega) | omega) _ | refine Below.alloc ?_ (by first | (simp; done) | (simp; omega) | omega) _ | refine Below.drew ?_))⟩; first | rfl | (simp [ovl8, Bx.ovl, val4_eq, h1]; done) | (simp [ovl8, Bx.ovl, val4_eq, h1]; omega) | (simp [ovl8, Bx.ovl, val4_eq, h1]; rw [Bool.eq_iff_iff]; first | (simp; done) | (simp; omega)))
  cases h2 : val4 bx0 by0 bx1 by1
  focus
    go_enter Try.func42, Try.ntmps42
    go_wp2_with (first | (go_at_call 60; (first | (refine Calls.mono (gw_at (boolIs (rxval_b _ _ _ _ _) (b := true) (by assumption))) ?_; rintro e w1 ⟨rfl, q, rfl⟩) | (refine Calls.mono (gw_at (boolIs (rxval_b _ _ _ _ _) (b := false) (by assumption))) ?_; rintro e w1 ⟨rfl, q, rfl⟩) | (refine Calls.mono (gw_at (rxval_b _ _ _ _ _)) ?_; rintro e w1 ⟨rfl, q, rfl⟩))))
    all_goals (go_ret; refine ⟨?_, (by repeat (first | with_reducible exact Below.refl _ _ | with_reducible assumption | refine bgw ?_ (by first | (simp; done) | (simp; omega) | omega) _ | refine Below.setCell ?_ (by first | exact Nat.le_of_not_lt (by assumption) | (simp; done) | (simp; omega) | omega) _ | refine Below.alloc ?_ (by first | (simp; done) | (simp; omega) | omega) _ | refine Below.drew ?_))⟩; first | rfl | (simp [ovl8, Bx.ovl, val4_eq, h1, h2]; done) | (simp [ovl8, Bx.ovl, val4_eq, h1, h2]; omega) | (simp [ovl8, Bx.ovl, val4_eq, h1, h2]; rw [Bool.eq_iff_iff]; first | (simp; done) | (simp; omega)))
  go_enter Try.func42, Try.ntmps42
  go_wp2_with (first | (go_at_call 60; (first | (refine Calls.mono (gw_at (boolIs (rxval_b _ _ _ _ _) (b := true) (by assumption))) ?_; rintro e w1 ⟨rfl, q, rfl⟩) | (refine Calls.mono (gw_at (boolIs (rxval_b _ _ _ _ _) (b := false) (by assumption))) ?_; rintro e w1 ⟨rfl, q, rfl⟩) | (refine Calls.mono (gw_at (rxval_b _ _ _ _ _)) ?_; rintro e w1 ⟨rfl, q, rfl⟩))))
  all_goals (go_ret; refine ⟨?_, (by repeat (first | with_reducible exact Below.refl _ _ | with_reducible assumption | refine bgw ?_ (by first | (simp; done) | (simp; omega) | omega) _ | refine Below.setCell ?_ (by first | exact Nat.le_of_not_lt (by assumption) | (simp; done) | (simp; omega) | omega) _ | refine Below.alloc ?_ (by first | (simp; done) | (simp; omega) | omega) _ | refine Below.drew ?_))⟩; first | rfl | (simp [ovl8, Bx.ovl, val4_eq, h1, h2]; done) | (simp [ovl8, Bx.ovl, val4_eq, h1, h2]; omega) | (simp [ovl8, Bx.ovl, val4_eq, h1, h2]; rw [Bool.eq_iff_iff]; first | (simp; done) | (simp; omega)))

end Go.Proofs.Ytconfbdnhalmoaa
