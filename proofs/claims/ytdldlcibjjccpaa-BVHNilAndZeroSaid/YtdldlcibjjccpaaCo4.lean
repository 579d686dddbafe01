/- Contracts of package aabb and of its reference: each returns what the Lean functions of the same meaning give, and nothing that existed has changed. No conditions.
Contracts of package aabb: each returns what the Lean functions of the same meaning give, and nothing that existed has changed. No conditions.
Contracts of package aabb, those with loops: each returns what the Lean functions of the same meaning give, and nothing that existed has changed. No conditions but the slices' own. -/
import Derived.Test.YtdldlcibjjccpaaCo2
import Derived.Test.YtdldlcibjjccpaaKi1
import Derived.Test.YtdldlcibjjccpaaKi2
import Derived.Test.YtdldlcibjjccpaaMa1
import Derived.Outline
import Derived.Test.YtdldlcibjjccpaaMa2

set_option linter.unusedVariables false
namespace Go.Proofs.Ytdldlcibjjccpaa
open Go.RowKit Fx

theorem rxsat_b (x y : Int) (w : World) : Calls Try.prog 72 #[.agg #[.int .i64 x, .int .i64 y]] w fun e w' => e = .returned (.agg #[.int .i64 (sat x), .int .i64 (sat y)]) ∧ Below w.heap.size w w' := by
  go_enter Try.func72, Try.ntmps72
  go_wp2_with (first | (go_at_call 91; refine Calls.mono (gw_at (rsat_b _ _)) ?_; rintro e w1 ⟨rfl, q, rfl⟩))
  repeat
    refine wp_region_gw_tail 7 (by kernel_rfl) (by kernel_rfl) ?_
    simp only [List.take_succ_cons, List.take_zero, List.drop_succ_cons, List.drop_zero]
    repeat (go_big_quiet_step ((first | (go_at_call 91; exact gw_call (rsat_b _ _)))))
    refine wpQuiet_nil ?_
    intro w1 hw1
    obtain ⟨q, rfl⟩ := hw1
    go_wp2_with (first | (go_at_call 91; refine Calls.mono (gw_at (rsat_b _ _)) ?_; rintro e w1 ⟨rfl, q, rfl⟩))
  exact bodyPost_ret (v := .agg #[.int .i64 (sat x), .int .i64 (sat y)]) (by simp [results, Try.results72, go_sem]; try (first | with_reducible rfl | exact ⟨rfl, rfl⟩ | exact ⟨rfl, rfl, rfl⟩ | exact ⟨rfl, rfl, rfl, rfl⟩ | exact ⟨rfl, rfl, rfl, rfl, rfl⟩ | exact ⟨rfl, rfl, rfl, rfl, rfl, rfl⟩ | rfl)) rfl ⟨rfl, bBel⟩

theorem rxval_b (x0 y0 x1 y1 : Int) (w : World) : Calls Try.prog 60 #[.agg #[.int .i64 x0, .int .i64 y0, .int .i64 x1, .int .i64 y1]] w fun e w' => e = .returned (.bool (val4 x0 y0 x1 y1)) ∧ Below w.heap.size w w' := by
  unfold val4
  have h := Bx.val_cases ⟨x0, y0, x1, y1⟩
  dsimp only at h
  rcases h with ⟨e, h1⟩ | ⟨e, h1, h2⟩ | ⟨e, h1, h2, h3⟩ | ⟨e, h1, h2, h3, h4⟩ | ⟨e, h1, h2, h3, h4, h5⟩ | ⟨e, h1, h2, h3, h4, h5, h6⟩ | ⟨e, h1, h2, h3, h4, h5, h6⟩
  all_goals
    rw [e]
    clear e
    go_enter Try.func60, Try.ntmps60
    go_wp2_with (first | (go_at_call 72; refine Calls.mono (gw_at (rxsat_b _ _ _)) ?_; rintro e w1 ⟨rfl, q, rfl⟩))
    repeat
      refine wp_region_gw (by kernel_rfl) (by kernel_rfl) ?_
      repeat (go_big_quiet_step ((first | (go_at_call 72; exact gw_call (rxsat_b _ _ _)))))
      refine wpQuiet_nil ?_
      intro w1 hw1
      obtain ⟨q, rfl⟩ := hw1
      go_wp2_with (first | (go_at_call 72; refine Calls.mono (gw_at (rxsat_b _ _ _)) ?_; rintro e w1 ⟨rfl, q, rfl⟩))
    go_ret
    exact ⟨rfl, bBel⟩

theorem rfp0_b (A : Option Addr) (cap : Nat) (w : World) : Calls Try.prog 73 #[.slice A 0 cap] w fun e w' => e = .returned (.tuple #[.agg #[.int .i64 0, .int .i64 0, .int .i64 0, .int .i64 0], .bool false]) ∧ Below w.heap.size w w' := by
  go_enter Try.func73, Try.ntmps73
  go_wp2_with (first | (go_at_call 72; refine Calls.mono (gw_at (rxsat_b _ _ _)) ?_; rintro e w1 ⟨rfl, q, rfl⟩))
  exact bodyPost_ret (v := .tuple #[.agg #[.int .i64 0, .int .i64 0, .int .i64 0, .int .i64 0], .bool false]) (by simp [results, Try.results73, go_sem]) rfl ⟨rfl, bBel⟩

theorem rfp1_b (b off cap : Nat) (ps : List (Int × Int)) (w : World) (hn : 0 < ps.length) (hl : ps.length ≤ 4611686018427387904) (hc : ∀ i (h : i < ps.length), w.cell? ⟨b, off + i * 2, none⟩ = some (.int .i64 ps[i].1) ∧ w.cell? ⟨b, off + i * 2 + 1, none⟩ = some (.int .i64 ps[i].2)) : Calls Try.prog 73 #[.slice (some ⟨b, off, none⟩) ps.length cap] w fun e w' => e = .returned (.tuple #[.agg #[.int .i64 (Bx.pts ps).x0, .int .i64 (Bx.pts ps).y0, .int .i64 (Bx.pts ps).x1, .int .i64 (Bx.pts ps).y1], .bool true]) ∧ Below w.heap.size w w' := by
  obtain ⟨c0, c1⟩ := hc 0 hn
  have ob := older_of_cell c0
  have hn' : (0 : Int) < (ps.length : Int) := by omega
  simp only [Nat.zero_mul, Nat.add_zero] at c0 c1
  go_enter Try.func73, Try.ntmps73
  go_wp2_with (first | (go_at_call 72; refine Calls.mono (gw_at (rxsat_b _ _ _)) ?_; rintro e w1 ⟨rfl, q, rfl⟩))
  have e1 : Bx.pts (ps.take 1) = Bx.one ps[0] := Bx.pts_one hn
  have g5 : w.heap.size < w.heap.size + 1 + q.os.size + 1 := by omega
  generalize hB5 : w.heap.size + 1 + q.os.size + 1 = B5 at *
  go_loopw [6] (fun i wr => ∃ k : Nat, 1 ≤ k ∧ k ≤ ps.length ∧ i = .int .i64 k ∧ blk wr B5 #[.int .i64 (Bx.pts (ps.take k)).x0, .int .i64 (Bx.pts (ps.take k)).y0, .int .i64 (Bx.pts (ps.take k)).x1, .int .i64 (Bx.pts (ps.take k)).y1] 26 ∧
      blk wr w.heap.size #[.int .i64 0, .int .i64 0, .int .i64 0, .int .i64 0] 26 ∧ Below w.heap.size w wr)
    (fun i _ => (ps.length - intOf i).toNat)
  case atStart =>
    refine ⟨1, by omega, by omega, rfl, ?_, ?_, bBel⟩
    · rw [e1]; exact blk_at (by simp; omega)
    · exact blk_alloc (blk_alloc (blk_gw (blk_new _ _ _)))
  case round =>
    obtain ⟨k, k1, k2, rfl, h5, h2, hbw⟩ := hrel
    have oh5 := blk_older h5
    have ch5_0 : _ = some _ := blk_cell h5 0
    have ch5_1 : _ = some _ := blk_cell h5 1
    have ch5_2 : _ = some _ := blk_cell h5 2
    have ch5_3 : _ = some _ := blk_cell h5 3
    have fh5_0 := blk_free h5 0
    have fh5_1 := blk_free h5 1
    have fh5_2 := blk_free h5 2
    have fh5_3 := blk_free h5 3
    have oh2 := blk_older h2
    have ch2_0 : _ = some _ := blk_cell h2 0
    have ch2_1 : _ = some _ := blk_cell h2 1
    have ch2_2 : _ = some _ := blk_cell h2 2
    have ch2_3 : _ = some _ := blk_cell h2 3
    have fh2_0 := blk_free h2 0
    have fh2_1 := blk_free h2 1
    have fh2_2 := blk_free h2 2
    have fh2_3 := blk_free h2 3
    have hsz := hbw.size
    by_cases hlt : k < ps.length
    · obtain ⟨d0, d1⟩ := hc k hlt
      have hob := World.block_lt_of_cell? w ⟨b, off + k * 2, none⟩ d0
      have d0' : wr.cell? ⟨b, off + k * 2, none⟩ = some (.int .i64 ps[k].1) := (hbw.cell (p := ⟨b, off + k * 2, none⟩) hob).trans d0
      have d1' : wr.cell? ⟨b, off + k * 2 + 1, none⟩ = some (.int .i64 ps[k].2) := (hbw.cell (p := ⟨b, off + k * 2 + 1, none⟩) hob).trans d1
      have odb := older_of_cell d0'
      have i0 : (0 : Int) ≤ (k : Int) := by omega
      have i1 : (k : Int) < (ps.length : Int) := by omega
      clear c0 c1 d0 d1
      go_wp2_with (first | (go_at_call 72; refine Calls.mono (gw_at (rxsat_b _ _ _)) ?_; rintro e w1 ⟨rfl, q, rfl⟩))
      refine ⟨⟨k + 1, by omega, by omega, by go_num, ?_, ?_, bBel⟩, by (try go_num); simp [intOf]; (try omega)⟩
      · rw [Bx.pts_succ k1 hlt]; exact (by apply blk_of; (repeat (first | with_reducible exact h5 | with_reducible apply blk_drew | with_reducible apply blk_gw | with_reducible apply blk_alloc | with_reducible apply blk_set | ((with_reducible apply blk_other); focus omega))); (first | rfl | simp))
      · exact (by apply blk_of; (repeat (first | with_reducible exact h2 | with_reducible apply blk_drew | with_reducible apply blk_gw | with_reducible apply blk_alloc | with_reducible apply blk_set | ((with_reducible apply blk_other); focus omega))); (first | rfl | simp))
    · have ek : k = ps.length := by omega
      have i1 : ¬ (k : Int) < (ps.length : Int) := by omega
      have et : ps.take k = ps := by rw [ek]; exact List.take_length
      rw [et] at *
      clear c0 c1
      go_wp2_with (first | (go_at_call 72; refine Calls.mono (gw_at (rxsat_b _ _ _)) ?_; rintro e w1 ⟨rfl, q, rfl⟩))
      exact bodyPost_ret (v := .tuple #[.agg #[.int .i64 (Bx.pts ps).x0, .int .i64 (Bx.pts ps).y0, .int .i64 (Bx.pts ps).x1, .int .i64 (Bx.pts ps).y1], .bool true]) (by simp [results, Try.results73, go_sem, ch2_0, ch2_1, ch2_2, ch2_3]) rfl ⟨rfl, bBel⟩

theorem rfp2_b (ax ay bx b_y : Int) (b cap : Nat) (t : TypeId) (w : World) (h : blk w b #[.int .i64 ax, .int .i64 ay, .int .i64 bx, .int .i64 b_y] t) : Calls Try.prog 73 #[.slice (some ⟨b, 0, none⟩) 2 cap] w fun e w' => e = .returned (.tuple #[.agg #[.int .i64 (min (sat ax) (sat bx)), .int .i64 (min (sat ay) (sat b_y)), .int .i64 (max (sat ax) (sat bx)), .int .i64 (max (sat ay) (sat b_y))], .bool true]) ∧ Below w.heap.size w w' := by
  have k := rfp1_b b 0 cap [(ax, ay), (bx, b_y)] w (by simp) (by simp) (fun i hi => by
    match i, hi with
    | 0, _ => exact ⟨blk_cell h 0, blk_cell h 1⟩
    | 1, _ => exact ⟨blk_cell h 2, blk_cell h 3⟩
    | n + 2, h => simp at h; omega)
  simp only [Bx.pts, List.foldl, Bx.one, Bx.step] at k
  exact k

theorem rfp4_b (ax ay bx b_y cx cy dx dy : Int) (b cap : Nat) (t : TypeId) (w : World) (h : blk w b #[.int .i64 ax, .int .i64 ay, .int .i64 bx, .int .i64 b_y, .int .i64 cx, .int .i64 cy, .int .i64 dx, .int .i64 dy] t) : Calls Try.prog 73 #[.slice (some ⟨b, 0, none⟩) 4 cap] w fun e w' => e = .returned (.tuple #[.agg #[.int .i64 (min (min (min (sat ax) (sat bx)) (sat cx)) (sat dx)), .int .i64 (min (min (min (sat ay) (sat b_y)) (sat cy)) (sat dy)), .int .i64 (max (max (max (sat ax) (sat bx)) (sat cx)) (sat dx)), .int .i64 (max (max (max (sat ay) (sat b_y)) (sat cy)) (sat dy))], .bool true]) ∧ Below w.heap.size w w' := by
  have k := rfp1_b b 0 cap [(ax, ay), (bx, b_y), (cx, cy), (dx, dy)] w (by simp) (by simp) (fun i hi => by
    match i, hi with
    | 0, _ => exact ⟨blk_cell h 0, blk_cell h 1⟩
    | 1, _ => exact ⟨blk_cell h 2, blk_cell h 3⟩
    | 2, _ => exact ⟨blk_cell h 4, blk_cell h 5⟩
    | 3, _ => exact ⟨blk_cell h 6, blk_cell h 7⟩
    | n + 4, h => simp at h; omega)
  simp only [Bx.pts, List.foldl, Bx.one, Bx.step] at k
  exact k

theorem rxovl_b (ax0 ay0 ax1 ay1 bx0 by0 bx1 by1 : Int) (w : World) : Calls Try.prog 47 #[.agg #[.int .i64 ax0, .int .i64 ay0, .int .i64 ax1, .int .i64 ay1], .agg #[.int .i64 bx0, .int .i64 by0, .int .i64 bx1, .int .i64 by1]] w fun e w' => e = .returned (.bool (ovl8 ax0 ay0 ax1 ay1 bx0 by0 bx1 by1)) ∧ Below w.heap.size w w' := by
  cases h1 : val4 ax0 ay0 ax1 ay1
  focus
    go_enter Try.func47, Try.ntmps47
    go_wp2_with (first | (go_at_call 60; (first | (refine Calls.mono (gw_at (boolIs (rxval_b _ _ _ _ _) (b := true) (by assumption))) ?_; rintro e w1 ⟨rfl, q, rfl⟩) | (refine Calls.mono (gw_at (boolIs (rxval_b _ _ _ _ _) (b := false) (by assumption))) ?_; rintro e w1 ⟨rfl, q, rfl⟩) | (refine Calls.mono (gw_at (rxval_b _ _ _ _ _)) ?_; rintro e w1 ⟨rfl, q, rfl⟩))))
    all_goals (go_ret; refine ⟨?_, bBel⟩; first | rfl | (simp [ovl8, Bx.ovl, val4_eq, h1]; done) | (simp [ovl8, Bx.ovl, val4_eq, h1]; omega) | (simp [ovl8, Bx.ovl, val4_eq, h1]; rw [Bool.eq_iff_iff]; first | (simp; done) | (simp; omega)))
  cases h2 : val4 bx0 by0 bx1 by1
  focus
    go_enter Try.func47, Try.ntmps47
    go_wp2_with (first | (go_at_call 60; (first | (refine Calls.mono (gw_at (boolIs (rxval_b _ _ _ _ _) (b := true) (by assumption))) ?_; rintro e w1 ⟨rfl, q, rfl⟩) | (refine Calls.mono (gw_at (boolIs (rxval_b _ _ _ _ _) (b := false) (by assumption))) ?_; rintro e w1 ⟨rfl, q, rfl⟩) | (refine Calls.mono (gw_at (rxval_b _ _ _ _ _)) ?_; rintro e w1 ⟨rfl, q, rfl⟩))))
    all_goals (go_ret; refine ⟨?_, bBel⟩; first | rfl | (simp [ovl8, Bx.ovl, val4_eq, h1, h2]; done) | (simp [ovl8, Bx.ovl, val4_eq, h1, h2]; omega) | (simp [ovl8, Bx.ovl, val4_eq, h1, h2]; rw [Bool.eq_iff_iff]; first | (simp; done) | (simp; omega)))
  go_enter Try.func47, Try.ntmps47
  go_wp2_with (first | (go_at_call 60; (first | (refine Calls.mono (gw_at (boolIs (rxval_b _ _ _ _ _) (b := true) (by assumption))) ?_; rintro e w1 ⟨rfl, q, rfl⟩) | (refine Calls.mono (gw_at (boolIs (rxval_b _ _ _ _ _) (b := false) (by assumption))) ?_; rintro e w1 ⟨rfl, q, rfl⟩) | (refine Calls.mono (gw_at (rxval_b _ _ _ _ _)) ?_; rintro e w1 ⟨rfl, q, rfl⟩))))
  all_goals (go_ret; refine ⟨?_, bBel⟩; first | rfl | (simp [ovl8, Bx.ovl, val4_eq, h1, h2]; done) | (simp [ovl8, Bx.ovl, val4_eq, h1, h2]; omega) | (simp [ovl8, Bx.ovl, val4_eq, h1, h2]; rw [Bool.eq_iff_iff]; first | (simp; done) | (simp; omega)))

theorem rxseg_b (x0 y0 x1 y1 fx fy tx ty : Int) (w : World) : Calls Try.prog 61 #[.agg #[.int .i64 x0, .int .i64 y0, .int .i64 x1, .int .i64 y1], .agg #[.int .i64 fx, .int .i64 fy], .agg #[.int .i64 tx, .int .i64 ty]] w fun e w' => e = .returned (.bool (seg8 x0 y0 x1 y1 fx fy tx ty)) ∧ Below w.heap.size w w' := by
  have e0 : ovl8 x0 y0 x1 y1 (min (sat fx) (sat tx)) (min (sat fy) (sat ty)) (max (sat fx) (sat tx)) (max (sat fy) (sat ty)) = Bx.ovl ⟨x0, y0, x1, y1⟩ (Bx.two fx fy tx ty) := rfl
  cases h0 : Bx.ovl ⟨x0, y0, x1, y1⟩ (Bx.two fx fy tx ty)
  focus
    rw [h0] at e0
    go_enter Try.func61, Try.ntmps61
    go_wp2_with (first | (go_at_call 73; (with_reducible show Calls _ _ (#[Value.slice _ 2 _]) _ _); refine Calls.mono (gw_at (rfp2_b _ _ _ _ _ _ _ _ (by first | ((with_reducible refine blk_at ?_); simp; done) | ((with_reducible refine blk_gw (blk_at ?_)); simp; done) | ((with_reducible refine blk_alloc (blk_at ?_)); simp; done) | ((with_reducible refine blk_gw (blk_alloc (blk_at ?_))); simp; done) | with_reducible assumption))) ?_; rintro e w1 ⟨rfl, q, rfl⟩) | (go_at_call 73; (with_reducible show Calls _ _ (#[Value.slice _ 4 _]) _ _); refine Calls.mono (gw_at (rfp4_b _ _ _ _ _ _ _ _ _ _ _ _ (by first | ((with_reducible refine blk_at ?_); simp; done) | ((with_reducible refine blk_gw (blk_at ?_)); simp; done) | ((with_reducible refine blk_alloc (blk_at ?_)); simp; done) | ((with_reducible refine blk_gw (blk_alloc (blk_at ?_))); simp; done) | with_reducible assumption))) ?_; rintro e w1 ⟨rfl, q, rfl⟩) | (go_at_call 73; (with_reducible show Calls _ _ (#[Value.slice _ (List.length _) _]) _ _); refine Calls.mono (gw_at (rfp_b _ _ _ _ (Pts.to (by with_reducible assumption) bBel) (by with_reducible assumption))) ?_; rintro e w1 ⟨rfl, q, rfl⟩) | (go_at_call 47; (first | (refine Calls.mono (gw_at (boolIs (rxovl_b _ _ _ _ _ _ _ _ _) (b := true) (by assumption))) ?_; rintro e w1 ⟨rfl, q, rfl⟩) | (refine Calls.mono (gw_at (boolIs (rxovl_b _ _ _ _ _ _ _ _ _) (b := false) (by assumption))) ?_; rintro e w1 ⟨rfl, q, rfl⟩) | (refine Calls.mono (gw_at (rxovl_b _ _ _ _ _ _ _ _ _)) ?_; rintro e w1 ⟨rfl, q, rfl⟩))) | (go_at_call 74; refine Calls.mono (gw_at (rorient_b _ _ _ _ _ _ _)) ?_; rintro e w1 ⟨rfl, q, rfl⟩))
    repeat
      refine wp_region_gw (by kernel_rfl) (by kernel_rfl) ?_
      repeat (go_big_quiet_step ((first | (go_at_call 73; (with_reducible show Calls _ _ (#[Value.slice _ 2 _]) _ _); exact gw_call (rfp2_b _ _ _ _ _ _ _ _ (by first | ((with_reducible refine blk_at ?_); simp; done) | ((with_reducible refine blk_gw (blk_at ?_)); simp; done) | ((with_reducible refine blk_alloc (blk_at ?_)); simp; done) | ((with_reducible refine blk_gw (blk_alloc (blk_at ?_))); simp; done) | with_reducible assumption))) | (go_at_call 73; (with_reducible show Calls _ _ (#[Value.slice _ 4 _]) _ _); exact gw_call (rfp4_b _ _ _ _ _ _ _ _ _ _ _ _ (by first | ((with_reducible refine blk_at ?_); simp; done) | ((with_reducible refine blk_gw (blk_at ?_)); simp; done) | ((with_reducible refine blk_alloc (blk_at ?_)); simp; done) | ((with_reducible refine blk_gw (blk_alloc (blk_at ?_))); simp; done) | with_reducible assumption))) | (go_at_call 73; (with_reducible show Calls _ _ (#[Value.slice _ (List.length _) _]) _ _); exact gw_call (rfp_b _ _ _ _ (Pts.to (by with_reducible assumption) bBel) (by with_reducible assumption))) | (go_at_call 47; (first | (exact gw_call (boolIs (rxovl_b _ _ _ _ _ _ _ _ _) (b := true) (by assumption))) | (exact gw_call (boolIs (rxovl_b _ _ _ _ _ _ _ _ _) (b := false) (by assumption))) | (exact gw_call (rxovl_b _ _ _ _ _ _ _ _ _)))) | (go_at_call 74; exact gw_call (rorient_b _ _ _ _ _ _ _)))))
      refine wpQuiet_nil ?_
      intro w1 hw1
      obtain ⟨q, rfl⟩ := hw1
      go_wp2_with (first | (go_at_call 73; (with_reducible show Calls _ _ (#[Value.slice _ 2 _]) _ _); refine Calls.mono (gw_at (rfp2_b _ _ _ _ _ _ _ _ (by first | ((with_reducible refine blk_at ?_); simp; done) | ((with_reducible refine blk_gw (blk_at ?_)); simp; done) | ((with_reducible refine blk_alloc (blk_at ?_)); simp; done) | ((with_reducible refine blk_gw (blk_alloc (blk_at ?_))); simp; done) | with_reducible assumption))) ?_; rintro e w1 ⟨rfl, q, rfl⟩) | (go_at_call 73; (with_reducible show Calls _ _ (#[Value.slice _ 4 _]) _ _); refine Calls.mono (gw_at (rfp4_b _ _ _ _ _ _ _ _ _ _ _ _ (by first | ((with_reducible refine blk_at ?_); simp; done) | ((with_reducible refine blk_gw (blk_at ?_)); simp; done) | ((with_reducible refine blk_alloc (blk_at ?_)); simp; done) | ((with_reducible refine blk_gw (blk_alloc (blk_at ?_))); simp; done) | with_reducible assumption))) ?_; rintro e w1 ⟨rfl, q, rfl⟩) | (go_at_call 73; (with_reducible show Calls _ _ (#[Value.slice _ (List.length _) _]) _ _); refine Calls.mono (gw_at (rfp_b _ _ _ _ (Pts.to (by with_reducible assumption) bBel) (by with_reducible assumption))) ?_; rintro e w1 ⟨rfl, q, rfl⟩) | (go_at_call 47; (first | (refine Calls.mono (gw_at (boolIs (rxovl_b _ _ _ _ _ _ _ _ _) (b := true) (by assumption))) ?_; rintro e w1 ⟨rfl, q, rfl⟩) | (refine Calls.mono (gw_at (boolIs (rxovl_b _ _ _ _ _ _ _ _ _) (b := false) (by assumption))) ?_; rintro e w1 ⟨rfl, q, rfl⟩) | (refine Calls.mono (gw_at (rxovl_b _ _ _ _ _ _ _ _ _)) ?_; rintro e w1 ⟨rfl, q, rfl⟩))) | (go_at_call 74; refine Calls.mono (gw_at (rorient_b _ _ _ _ _ _ _)) ?_; rintro e w1 ⟨rfl, q, rfl⟩))
    go_ret
    exact ⟨by simp [seg8, Bx.seg, h0], bBel⟩
  rw [h0] at e0
  go_enter Try.func61, Try.ntmps61
  go_wp2_with (first | (go_at_call 73; (with_reducible show Calls _ _ (#[Value.slice _ 2 _]) _ _); refine Calls.mono (gw_at (rfp2_b _ _ _ _ _ _ _ _ (by first | ((with_reducible refine blk_at ?_); simp; done) | ((with_reducible refine blk_gw (blk_at ?_)); simp; done) | ((with_reducible refine blk_alloc (blk_at ?_)); simp; done) | ((with_reducible refine blk_gw (blk_alloc (blk_at ?_))); simp; done) | with_reducible assumption))) ?_; rintro e w1 ⟨rfl, q, rfl⟩) | (go_at_call 73; (with_reducible show Calls _ _ (#[Value.slice _ 4 _]) _ _); refine Calls.mono (gw_at (rfp4_b _ _ _ _ _ _ _ _ _ _ _ _ (by first | ((with_reducible refine blk_at ?_); simp; done) | ((with_reducible refine blk_gw (blk_at ?_)); simp; done) | ((with_reducible refine blk_alloc (blk_at ?_)); simp; done) | ((with_reducible refine blk_gw (blk_alloc (blk_at ?_))); simp; done) | with_reducible assumption))) ?_; rintro e w1 ⟨rfl, q, rfl⟩) | (go_at_call 73; (with_reducible show Calls _ _ (#[Value.slice _ (List.length _) _]) _ _); refine Calls.mono (gw_at (rfp_b _ _ _ _ (Pts.to (by with_reducible assumption) bBel) (by with_reducible assumption))) ?_; rintro e w1 ⟨rfl, q, rfl⟩) | (go_at_call 47; (first | (refine Calls.mono (gw_at (boolIs (rxovl_b _ _ _ _ _ _ _ _ _) (b := true) (by assumption))) ?_; rintro e w1 ⟨rfl, q, rfl⟩) | (refine Calls.mono (gw_at (boolIs (rxovl_b _ _ _ _ _ _ _ _ _) (b := false) (by assumption))) ?_; rintro e w1 ⟨rfl, q, rfl⟩) | (refine Calls.mono (gw_at (rxovl_b _ _ _ _ _ _ _ _ _)) ?_; rintro e w1 ⟨rfl, q, rfl⟩))) | (go_at_call 74; refine Calls.mono (gw_at (rorient_b _ _ _ _ _ _ _)) ?_; rintro e w1 ⟨rfl, q, rfl⟩))
  refine wp_named ?_
  intro W hW
  have k3 : blk W w.heap.size #[.int .i64 x0, .int .i64 y0, .int .i64 x1, .int .i64 y1] 26 := by rw [hW]; exact bBkn
  have k4 : blk W (w.heap.size + 1) #[.int .i64 fx, .int .i64 fy] 24 := by rw [hW]; exact bBkn
  have k5 : blk W (w.heap.size + 1 + 1) #[.int .i64 tx, .int .i64 ty] 24 := by rw [hW]; exact bBkn
  have k9 := blk_top hW
  have hb : Below w.heap.size w W := by rw [hW]; exact bBel
  clear hW
  simp at k9
  have ok3 := blk_older k3
  have ck3_0 : _ = some _ := blk_cell k3 0
  have ck3_1 : _ = some _ := blk_cell k3 1
  have ck3_2 : _ = some _ := blk_cell k3 2
  have ck3_3 : _ = some _ := blk_cell k3 3
  have fk3_0 := blk_free k3 0
  have fk3_1 := blk_free k3 1
  have fk3_2 := blk_free k3 2
  have fk3_3 := blk_free k3 3
  have ok4 := blk_older k4
  have ck4_0 : _ = some _ := blk_cell k4 0
  have ck4_1 : _ = some _ := blk_cell k4 1
  have fk4_0 := blk_free k4 0
  have fk4_1 := blk_free k4 1
  have ok5 := blk_older k5
  have ck5_0 : _ = some _ := blk_cell k5 0
  have ck5_1 : _ = some _ := blk_cell k5 1
  have fk5_0 := blk_free k5 0
  have fk5_1 := blk_free k5 1
  have ok9 := blk_older k9
  have hsz := hb.size
  go_loopw [10, 11, 12] (fun l r i wr => ∃ k : Nat, k ≤ 4 ∧ l = .int .i64 (Bx.count ⟨x0, y0, x1, y1⟩ fx fy tx ty 1 k) ∧ r = .int .i64 (Bx.count ⟨x0, y0, x1, y1⟩ fx fy tx ty (-1) k) ∧ i = .int .i64 k ∧ ∃ p, wr = gw W p)
    (fun _ _ i _ => (4 - intOf i).toNat)
  case atStart => exact ⟨0, by omega, rfl, rfl, rfl, ⟨⟨W.drawn, #[]⟩, by unfold gw; simp⟩⟩
  case round =>
    obtain ⟨k, hk, rfl, rfl, rfl, p, rfl⟩ := hrel
    have cn1 := Bx.count_in ⟨x0, y0, x1, y1⟩ fx fy tx ty 1 k
    have cn2 := Bx.count_in ⟨x0, y0, x1, y1⟩ fx fy tx ty (-1) k
    by_cases hlt : k < 4
    · obtain ⟨p0, p1⟩ := corner_at k9 hlt
      have i0 : (0 : Int) ≤ (k : Int) := by omega
      have i1 : (k : Int) < 4 := by omega
      by_cases s1 : Bx.side ⟨x0, y0, x1, y1⟩ fx fy tx ty k = 1
      · have t1 : (orient fx fy tx ty (Bx.cx ⟨x0, y0, x1, y1⟩ k) (Bx.cy ⟨x0, y0, x1, y1⟩ k) == 1) = true := by rw [beq_iff_eq]; exact s1
        have t2 : (orient fx fy tx ty (Bx.cx ⟨x0, y0, x1, y1⟩ k) (Bx.cy ⟨x0, y0, x1, y1⟩ k) == -1) = false := by rw [beq_eq_false_iff_ne]; intro e; unfold Bx.side at s1; omega
        go_wp2_with (first | (go_at_call 73; (with_reducible show Calls _ _ (#[Value.slice _ 2 _]) _ _); refine Calls.mono (gw_at (rfp2_b _ _ _ _ _ _ _ _ (by first | ((with_reducible refine blk_at ?_); simp; done) | ((with_reducible refine blk_gw (blk_at ?_)); simp; done) | ((with_reducible refine blk_alloc (blk_at ?_)); simp; done) | ((with_reducible refine blk_gw (blk_alloc (blk_at ?_))); simp; done) | with_reducible assumption))) ?_; rintro e w1 ⟨rfl, q, rfl⟩) | (go_at_call 73; (with_reducible show Calls _ _ (#[Value.slice _ 4 _]) _ _); refine Calls.mono (gw_at (rfp4_b _ _ _ _ _ _ _ _ _ _ _ _ (by first | ((with_reducible refine blk_at ?_); simp; done) | ((with_reducible refine blk_gw (blk_at ?_)); simp; done) | ((with_reducible refine blk_alloc (blk_at ?_)); simp; done) | ((with_reducible refine blk_gw (blk_alloc (blk_at ?_))); simp; done) | with_reducible assumption))) ?_; rintro e w1 ⟨rfl, q, rfl⟩) | (go_at_call 73; (with_reducible show Calls _ _ (#[Value.slice _ (List.length _) _]) _ _); refine Calls.mono (gw_at (rfp_b _ _ _ _ (Pts.to (by with_reducible assumption) bBel) (by with_reducible assumption))) ?_; rintro e w1 ⟨rfl, q, rfl⟩) | (go_at_call 47; (first | (refine Calls.mono (gw_at (boolIs (rxovl_b _ _ _ _ _ _ _ _ _) (b := true) (by assumption))) ?_; rintro e w1 ⟨rfl, q, rfl⟩) | (refine Calls.mono (gw_at (boolIs (rxovl_b _ _ _ _ _ _ _ _ _) (b := false) (by assumption))) ?_; rintro e w1 ⟨rfl, q, rfl⟩) | (refine Calls.mono (gw_at (rxovl_b _ _ _ _ _ _ _ _ _)) ?_; rintro e w1 ⟨rfl, q, rfl⟩))) | (go_at_call 74; refine Calls.mono (gw_at (rorient_b _ _ _ _ _ _ _)) ?_; rintro e w1 ⟨rfl, q, rfl⟩))
        refine wp_region_gw (by kernel_rfl) (by kernel_rfl) ?_
        repeat (go_big_quiet_step ((first | (go_at_call 73; (with_reducible show Calls _ _ (#[Value.slice _ 2 _]) _ _); exact gw_call (rfp2_b _ _ _ _ _ _ _ _ (by first | ((with_reducible refine blk_at ?_); simp; done) | ((with_reducible refine blk_gw (blk_at ?_)); simp; done) | ((with_reducible refine blk_alloc (blk_at ?_)); simp; done) | ((with_reducible refine blk_gw (blk_alloc (blk_at ?_))); simp; done) | with_reducible assumption))) | (go_at_call 73; (with_reducible show Calls _ _ (#[Value.slice _ 4 _]) _ _); exact gw_call (rfp4_b _ _ _ _ _ _ _ _ _ _ _ _ (by first | ((with_reducible refine blk_at ?_); simp; done) | ((with_reducible refine blk_gw (blk_at ?_)); simp; done) | ((with_reducible refine blk_alloc (blk_at ?_)); simp; done) | ((with_reducible refine blk_gw (blk_alloc (blk_at ?_))); simp; done) | with_reducible assumption))) | (go_at_call 73; (with_reducible show Calls _ _ (#[Value.slice _ (List.length _) _]) _ _); exact gw_call (rfp_b _ _ _ _ (Pts.to (by with_reducible assumption) bBel) (by with_reducible assumption))) | (go_at_call 47; (first | (exact gw_call (boolIs (rxovl_b _ _ _ _ _ _ _ _ _) (b := true) (by assumption))) | (exact gw_call (boolIs (rxovl_b _ _ _ _ _ _ _ _ _) (b := false) (by assumption))) | (exact gw_call (rxovl_b _ _ _ _ _ _ _ _ _)))) | (go_at_call 74; exact gw_call (rorient_b _ _ _ _ _ _ _)))))
        refine wpQuiet_nil ?_
        intro w1 hw1
        obtain ⟨q, rfl⟩ := hw1
        go_wp2_with (first | (go_at_call 73; (with_reducible show Calls _ _ (#[Value.slice _ 2 _]) _ _); refine Calls.mono (gw_at (rfp2_b _ _ _ _ _ _ _ _ (by first | ((with_reducible refine blk_at ?_); simp; done) | ((with_reducible refine blk_gw (blk_at ?_)); simp; done) | ((with_reducible refine blk_alloc (blk_at ?_)); simp; done) | ((with_reducible refine blk_gw (blk_alloc (blk_at ?_))); simp; done) | with_reducible assumption))) ?_; rintro e w1 ⟨rfl, q, rfl⟩) | (go_at_call 73; (with_reducible show Calls _ _ (#[Value.slice _ 4 _]) _ _); refine Calls.mono (gw_at (rfp4_b _ _ _ _ _ _ _ _ _ _ _ _ (by first | ((with_reducible refine blk_at ?_); simp; done) | ((with_reducible refine blk_gw (blk_at ?_)); simp; done) | ((with_reducible refine blk_alloc (blk_at ?_)); simp; done) | ((with_reducible refine blk_gw (blk_alloc (blk_at ?_))); simp; done) | with_reducible assumption))) ?_; rintro e w1 ⟨rfl, q, rfl⟩) | (go_at_call 73; (with_reducible show Calls _ _ (#[Value.slice _ (List.length _) _]) _ _); refine Calls.mono (gw_at (rfp_b _ _ _ _ (Pts.to (by with_reducible assumption) bBel) (by with_reducible assumption))) ?_; rintro e w1 ⟨rfl, q, rfl⟩) | (go_at_call 47; (first | (refine Calls.mono (gw_at (boolIs (rxovl_b _ _ _ _ _ _ _ _ _) (b := true) (by assumption))) ?_; rintro e w1 ⟨rfl, q, rfl⟩) | (refine Calls.mono (gw_at (boolIs (rxovl_b _ _ _ _ _ _ _ _ _) (b := false) (by assumption))) ?_; rintro e w1 ⟨rfl, q, rfl⟩) | (refine Calls.mono (gw_at (rxovl_b _ _ _ _ _ _ _ _ _)) ?_; rintro e w1 ⟨rfl, q, rfl⟩))) | (go_at_call 74; refine Calls.mono (gw_at (rorient_b _ _ _ _ _ _ _)) ?_; rintro e w1 ⟨rfl, q, rfl⟩))
        refine ⟨⟨k + 1, by omega, ?_, ?_, by go_num, gw_gw W p _⟩, by (try go_num); simp [intOf]; (try omega)⟩
        · rw [show Bx.count ⟨x0, y0, x1, y1⟩ fx fy tx ty 1 (k + 1) = Bx.count ⟨x0, y0, x1, y1⟩ fx fy tx ty 1 k + 1 from by rw [Bx.count, if_pos s1]]; try go_num
        · rw [show Bx.count ⟨x0, y0, x1, y1⟩ fx fy tx ty (-1) (k + 1) = Bx.count ⟨x0, y0, x1, y1⟩ fx fy tx ty (-1) k from by rw [Bx.count, if_neg (by omega)]; try omega]
      · by_cases s2 : Bx.side ⟨x0, y0, x1, y1⟩ fx fy tx ty k = -1
        · have t1 : (orient fx fy tx ty (Bx.cx ⟨x0, y0, x1, y1⟩ k) (Bx.cy ⟨x0, y0, x1, y1⟩ k) == 1) = false := by rw [beq_eq_false_iff_ne]; exact s1
          have t2 : (orient fx fy tx ty (Bx.cx ⟨x0, y0, x1, y1⟩ k) (Bx.cy ⟨x0, y0, x1, y1⟩ k) == -1) = true := by rw [beq_iff_eq]; exact s2
          go_wp2_with (first | (go_at_call 73; (with_reducible show Calls _ _ (#[Value.slice _ 2 _]) _ _); refine Calls.mono (gw_at (rfp2_b _ _ _ _ _ _ _ _ (by first | ((with_reducible refine blk_at ?_); simp; done) | ((with_reducible refine blk_gw (blk_at ?_)); simp; done) | ((with_reducible refine blk_alloc (blk_at ?_)); simp; done) | ((with_reducible refine blk_gw (blk_alloc (blk_at ?_))); simp; done) | with_reducible assumption))) ?_; rintro e w1 ⟨rfl, q, rfl⟩) | (go_at_call 73; (with_reducible show Calls _ _ (#[Value.slice _ 4 _]) _ _); refine Calls.mono (gw_at (rfp4_b _ _ _ _ _ _ _ _ _ _ _ _ (by first | ((with_reducible refine blk_at ?_); simp; done) | ((with_reducible refine blk_gw (blk_at ?_)); simp; done) | ((with_reducible refine blk_alloc (blk_at ?_)); simp; done) | ((with_reducible refine blk_gw (blk_alloc (blk_at ?_))); simp; done) | with_reducible assumption))) ?_; rintro e w1 ⟨rfl, q, rfl⟩) | (go_at_call 73; (with_reducible show Calls _ _ (#[Value.slice _ (List.length _) _]) _ _); refine Calls.mono (gw_at (rfp_b _ _ _ _ (Pts.to (by with_reducible assumption) bBel) (by with_reducible assumption))) ?_; rintro e w1 ⟨rfl, q, rfl⟩) | (go_at_call 47; (first | (refine Calls.mono (gw_at (boolIs (rxovl_b _ _ _ _ _ _ _ _ _) (b := true) (by assumption))) ?_; rintro e w1 ⟨rfl, q, rfl⟩) | (refine Calls.mono (gw_at (boolIs (rxovl_b _ _ _ _ _ _ _ _ _) (b := false) (by assumption))) ?_; rintro e w1 ⟨rfl, q, rfl⟩) | (refine Calls.mono (gw_at (rxovl_b _ _ _ _ _ _ _ _ _)) ?_; rintro e w1 ⟨rfl, q, rfl⟩))) | (go_at_call 74; refine Calls.mono (gw_at (rorient_b _ _ _ _ _ _ _)) ?_; rintro e w1 ⟨rfl, q, rfl⟩))
          refine wp_region_gw (by kernel_rfl) (by kernel_rfl) ?_
          repeat (go_big_quiet_step ((first | (go_at_call 73; (with_reducible show Calls _ _ (#[Value.slice _ 2 _]) _ _); exact gw_call (rfp2_b _ _ _ _ _ _ _ _ (by first | ((with_reducible refine blk_at ?_); simp; done) | ((with_reducible refine blk_gw (blk_at ?_)); simp; done) | ((with_reducible refine blk_alloc (blk_at ?_)); simp; done) | ((with_reducible refine blk_gw (blk_alloc (blk_at ?_))); simp; done) | with_reducible assumption))) | (go_at_call 73; (with_reducible show Calls _ _ (#[Value.slice _ 4 _]) _ _); exact gw_call (rfp4_b _ _ _ _ _ _ _ _ _ _ _ _ (by first | ((with_reducible refine blk_at ?_); simp; done) | ((with_reducible refine blk_gw (blk_at ?_)); simp; done) | ((with_reducible refine blk_alloc (blk_at ?_)); simp; done) | ((with_reducible refine blk_gw (blk_alloc (blk_at ?_))); simp; done) | with_reducible assumption))) | (go_at_call 73; (with_reducible show Calls _ _ (#[Value.slice _ (List.length _) _]) _ _); exact gw_call (rfp_b _ _ _ _ (Pts.to (by with_reducible assumption) bBel) (by with_reducible assumption))) | (go_at_call 47; (first | (exact gw_call (boolIs (rxovl_b _ _ _ _ _ _ _ _ _) (b := true) (by assumption))) | (exact gw_call (boolIs (rxovl_b _ _ _ _ _ _ _ _ _) (b := false) (by assumption))) | (exact gw_call (rxovl_b _ _ _ _ _ _ _ _ _)))) | (go_at_call 74; exact gw_call (rorient_b _ _ _ _ _ _ _)))))
          refine wpQuiet_nil ?_
          intro w1 hw1
          obtain ⟨q, rfl⟩ := hw1
          go_wp2_with (first | (go_at_call 73; (with_reducible show Calls _ _ (#[Value.slice _ 2 _]) _ _); refine Calls.mono (gw_at (rfp2_b _ _ _ _ _ _ _ _ (by first | ((with_reducible refine blk_at ?_); simp; done) | ((with_reducible refine blk_gw (blk_at ?_)); simp; done) | ((with_reducible refine blk_alloc (blk_at ?_)); simp; done) | ((with_reducible refine blk_gw (blk_alloc (blk_at ?_))); simp; done) | with_reducible assumption))) ?_; rintro e w1 ⟨rfl, q, rfl⟩) | (go_at_call 73; (with_reducible show Calls _ _ (#[Value.slice _ 4 _]) _ _); refine Calls.mono (gw_at (rfp4_b _ _ _ _ _ _ _ _ _ _ _ _ (by first | ((with_reducible refine blk_at ?_); simp; done) | ((with_reducible refine blk_gw (blk_at ?_)); simp; done) | ((with_reducible refine blk_alloc (blk_at ?_)); simp; done) | ((with_reducible refine blk_gw (blk_alloc (blk_at ?_))); simp; done) | with_reducible assumption))) ?_; rintro e w1 ⟨rfl, q, rfl⟩) | (go_at_call 73; (with_reducible show Calls _ _ (#[Value.slice _ (List.length _) _]) _ _); refine Calls.mono (gw_at (rfp_b _ _ _ _ (Pts.to (by with_reducible assumption) bBel) (by with_reducible assumption))) ?_; rintro e w1 ⟨rfl, q, rfl⟩) | (go_at_call 47; (first | (refine Calls.mono (gw_at (boolIs (rxovl_b _ _ _ _ _ _ _ _ _) (b := true) (by assumption))) ?_; rintro e w1 ⟨rfl, q, rfl⟩) | (refine Calls.mono (gw_at (boolIs (rxovl_b _ _ _ _ _ _ _ _ _) (b := false) (by assumption))) ?_; rintro e w1 ⟨rfl, q, rfl⟩) | (refine Calls.mono (gw_at (rxovl_b _ _ _ _ _ _ _ _ _)) ?_; rintro e w1 ⟨rfl, q, rfl⟩))) | (go_at_call 74; refine Calls.mono (gw_at (rorient_b _ _ _ _ _ _ _)) ?_; rintro e w1 ⟨rfl, q, rfl⟩))
          refine ⟨⟨k + 1, by omega, ?_, ?_, by go_num, gw_gw W p _⟩, by (try go_num); simp [intOf]; (try omega)⟩
          · rw [show Bx.count ⟨x0, y0, x1, y1⟩ fx fy tx ty 1 (k + 1) = Bx.count ⟨x0, y0, x1, y1⟩ fx fy tx ty 1 k from by rw [Bx.count, if_neg s1]; try omega]
          · rw [show Bx.count ⟨x0, y0, x1, y1⟩ fx fy tx ty (-1) (k + 1) = Bx.count ⟨x0, y0, x1, y1⟩ fx fy tx ty (-1) k + 1 from by rw [Bx.count, if_pos s2]]; try go_num
        · have t1 : (orient fx fy tx ty (Bx.cx ⟨x0, y0, x1, y1⟩ k) (Bx.cy ⟨x0, y0, x1, y1⟩ k) == 1) = false := by rw [beq_eq_false_iff_ne]; exact s1
          have t2 : (orient fx fy tx ty (Bx.cx ⟨x0, y0, x1, y1⟩ k) (Bx.cy ⟨x0, y0, x1, y1⟩ k) == -1) = false := by rw [beq_eq_false_iff_ne]; exact s2
          go_wp2_with (first | (go_at_call 73; (with_reducible show Calls _ _ (#[Value.slice _ 2 _]) _ _); refine Calls.mono (gw_at (rfp2_b _ _ _ _ _ _ _ _ (by first | ((with_reducible refine blk_at ?_); simp; done) | ((with_reducible refine blk_gw (blk_at ?_)); simp; done) | ((with_reducible refine blk_alloc (blk_at ?_)); simp; done) | ((with_reducible refine blk_gw (blk_alloc (blk_at ?_))); simp; done) | with_reducible assumption))) ?_; rintro e w1 ⟨rfl, q, rfl⟩) | (go_at_call 73; (with_reducible show Calls _ _ (#[Value.slice _ 4 _]) _ _); refine Calls.mono (gw_at (rfp4_b _ _ _ _ _ _ _ _ _ _ _ _ (by first | ((with_reducible refine blk_at ?_); simp; done) | ((with_reducible refine blk_gw (blk_at ?_)); simp; done) | ((with_reducible refine blk_alloc (blk_at ?_)); simp; done) | ((with_reducible refine blk_gw (blk_alloc (blk_at ?_))); simp; done) | with_reducible assumption))) ?_; rintro e w1 ⟨rfl, q, rfl⟩) | (go_at_call 73; (with_reducible show Calls _ _ (#[Value.slice _ (List.length _) _]) _ _); refine Calls.mono (gw_at (rfp_b _ _ _ _ (Pts.to (by with_reducible assumption) bBel) (by with_reducible assumption))) ?_; rintro e w1 ⟨rfl, q, rfl⟩) | (go_at_call 47; (first | (refine Calls.mono (gw_at (boolIs (rxovl_b _ _ _ _ _ _ _ _ _) (b := true) (by assumption))) ?_; rintro e w1 ⟨rfl, q, rfl⟩) | (refine Calls.mono (gw_at (boolIs (rxovl_b _ _ _ _ _ _ _ _ _) (b := false) (by assumption))) ?_; rintro e w1 ⟨rfl, q, rfl⟩) | (refine Calls.mono (gw_at (rxovl_b _ _ _ _ _ _ _ _ _)) ?_; rintro e w1 ⟨rfl, q, rfl⟩))) | (go_at_call 74; refine Calls.mono (gw_at (rorient_b _ _ _ _ _ _ _)) ?_; rintro e w1 ⟨rfl, q, rfl⟩))
          refine wp_region_gw (by kernel_rfl) (by kernel_rfl) ?_
          repeat (go_big_quiet_step ((first | (go_at_call 73; (with_reducible show Calls _ _ (#[Value.slice _ 2 _]) _ _); exact gw_call (rfp2_b _ _ _ _ _ _ _ _ (by first | ((with_reducible refine blk_at ?_); simp; done) | ((with_reducible refine blk_gw (blk_at ?_)); simp; done) | ((with_reducible refine blk_alloc (blk_at ?_)); simp; done) | ((with_reducible refine blk_gw (blk_alloc (blk_at ?_))); simp; done) | with_reducible assumption))) | (go_at_call 73; (with_reducible show Calls _ _ (#[Value.slice _ 4 _]) _ _); exact gw_call (rfp4_b _ _ _ _ _ _ _ _ _ _ _ _ (by first | ((with_reducible refine blk_at ?_); simp; done) | ((with_reducible refine blk_gw (blk_at ?_)); simp; done) | ((with_reducible refine blk_alloc (blk_at ?_)); simp; done) | ((with_reducible refine blk_gw (blk_alloc (blk_at ?_))); simp; done) | with_reducible assumption))) | (go_at_call 73; (with_reducible show Calls _ _ (#[Value.slice _ (List.length _) _]) _ _); exact gw_call (rfp_b _ _ _ _ (Pts.to (by with_reducible assumption) bBel) (by with_reducible assumption))) | (go_at_call 47; (first | (exact gw_call (boolIs (rxovl_b _ _ _ _ _ _ _ _ _) (b := true) (by assumption))) | (exact gw_call (boolIs (rxovl_b _ _ _ _ _ _ _ _ _) (b := false) (by assumption))) | (exact gw_call (rxovl_b _ _ _ _ _ _ _ _ _)))) | (go_at_call 74; exact gw_call (rorient_b _ _ _ _ _ _ _)))))
          refine wpQuiet_nil ?_
          intro w1 hw1
          obtain ⟨q, rfl⟩ := hw1
          go_wp2_with (first | (go_at_call 73; (with_reducible show Calls _ _ (#[Value.slice _ 2 _]) _ _); refine Calls.mono (gw_at (rfp2_b _ _ _ _ _ _ _ _ (by first | ((with_reducible refine blk_at ?_); simp; done) | ((with_reducible refine blk_gw (blk_at ?_)); simp; done) | ((with_reducible refine blk_alloc (blk_at ?_)); simp; done) | ((with_reducible refine blk_gw (blk_alloc (blk_at ?_))); simp; done) | with_reducible assumption))) ?_; rintro e w1 ⟨rfl, q, rfl⟩) | (go_at_call 73; (with_reducible show Calls _ _ (#[Value.slice _ 4 _]) _ _); refine Calls.mono (gw_at (rfp4_b _ _ _ _ _ _ _ _ _ _ _ _ (by first | ((with_reducible refine blk_at ?_); simp; done) | ((with_reducible refine blk_gw (blk_at ?_)); simp; done) | ((with_reducible refine blk_alloc (blk_at ?_)); simp; done) | ((with_reducible refine blk_gw (blk_alloc (blk_at ?_))); simp; done) | with_reducible assumption))) ?_; rintro e w1 ⟨rfl, q, rfl⟩) | (go_at_call 73; (with_reducible show Calls _ _ (#[Value.slice _ (List.length _) _]) _ _); refine Calls.mono (gw_at (rfp_b _ _ _ _ (Pts.to (by with_reducible assumption) bBel) (by with_reducible assumption))) ?_; rintro e w1 ⟨rfl, q, rfl⟩) | (go_at_call 47; (first | (refine Calls.mono (gw_at (boolIs (rxovl_b _ _ _ _ _ _ _ _ _) (b := true) (by assumption))) ?_; rintro e w1 ⟨rfl, q, rfl⟩) | (refine Calls.mono (gw_at (boolIs (rxovl_b _ _ _ _ _ _ _ _ _) (b := false) (by assumption))) ?_; rintro e w1 ⟨rfl, q, rfl⟩) | (refine Calls.mono (gw_at (rxovl_b _ _ _ _ _ _ _ _ _)) ?_; rintro e w1 ⟨rfl, q, rfl⟩))) | (go_at_call 74; refine Calls.mono (gw_at (rorient_b _ _ _ _ _ _ _)) ?_; rintro e w1 ⟨rfl, q, rfl⟩))
          refine ⟨⟨k + 1, by omega, ?_, ?_, by go_num, gw_gw W p _⟩, by (try go_num); simp [intOf]; (try omega)⟩
          · rw [show Bx.count ⟨x0, y0, x1, y1⟩ fx fy tx ty 1 (k + 1) = Bx.count ⟨x0, y0, x1, y1⟩ fx fy tx ty 1 k from by rw [Bx.count, if_neg s1]; try omega]
          · rw [show Bx.count ⟨x0, y0, x1, y1⟩ fx fy tx ty (-1) (k + 1) = Bx.count ⟨x0, y0, x1, y1⟩ fx fy tx ty (-1) k from by rw [Bx.count, if_neg s2]; try omega]
    · obtain rfl : k = 4 := by omega
      go_wp2_with (first | (go_at_call 73; (with_reducible show Calls _ _ (#[Value.slice _ 2 _]) _ _); refine Calls.mono (gw_at (rfp2_b _ _ _ _ _ _ _ _ (by first | ((with_reducible refine blk_at ?_); simp; done) | ((with_reducible refine blk_gw (blk_at ?_)); simp; done) | ((with_reducible refine blk_alloc (blk_at ?_)); simp; done) | ((with_reducible refine blk_gw (blk_alloc (blk_at ?_))); simp; done) | with_reducible assumption))) ?_; rintro e w1 ⟨rfl, q, rfl⟩) | (go_at_call 73; (with_reducible show Calls _ _ (#[Value.slice _ 4 _]) _ _); refine Calls.mono (gw_at (rfp4_b _ _ _ _ _ _ _ _ _ _ _ _ (by first | ((with_reducible refine blk_at ?_); simp; done) | ((with_reducible refine blk_gw (blk_at ?_)); simp; done) | ((with_reducible refine blk_alloc (blk_at ?_)); simp; done) | ((with_reducible refine blk_gw (blk_alloc (blk_at ?_))); simp; done) | with_reducible assumption))) ?_; rintro e w1 ⟨rfl, q, rfl⟩) | (go_at_call 73; (with_reducible show Calls _ _ (#[Value.slice _ (List.length _) _]) _ _); refine Calls.mono (gw_at (rfp_b _ _ _ _ (Pts.to (by with_reducible assumption) bBel) (by with_reducible assumption))) ?_; rintro e w1 ⟨rfl, q, rfl⟩) | (go_at_call 47; (first | (refine Calls.mono (gw_at (boolIs (rxovl_b _ _ _ _ _ _ _ _ _) (b := true) (by assumption))) ?_; rintro e w1 ⟨rfl, q, rfl⟩) | (refine Calls.mono (gw_at (boolIs (rxovl_b _ _ _ _ _ _ _ _ _) (b := false) (by assumption))) ?_; rintro e w1 ⟨rfl, q, rfl⟩) | (refine Calls.mono (gw_at (rxovl_b _ _ _ _ _ _ _ _ _)) ?_; rintro e w1 ⟨rfl, q, rfl⟩))) | (go_at_call 74; refine Calls.mono (gw_at (rorient_b _ _ _ _ _ _ _)) ?_; rintro e w1 ⟨rfl, q, rfl⟩))
      all_goals (go_ret; refine ⟨?_, bBel⟩; simp [seg8, Bx.seg, h0]; try omega)

end Go.Proofs.Ytdldlcibjjccpaa

set_option linter.unusedVariables false
namespace Go.Proofs.Ytdldlcibjjccpaa
open Go.RowKit Fx

def vr (l h : Int) : Bool := decide (-536870911 ≤ l) && decide (l ≤ h) && decide (h ≤ 536870911)
theorem val4_vr (x0 y0 x1 y1 : Int) : val4 x0 y0 x1 y1 = (vr x0 x1 && vr y0 y1) := by
  have e : ∀ z, z = sat z ↔ -536870911 ≤ z ∧ z ≤ 536870911 := fun z => by unfold sat; split <;> (try split) <;> omega
  rw [Bool.eq_iff_iff]
  simp only [val4, Bx.val_iff, Bx.ok, vr, Bool.and_eq_true, decide_eq_true_eq]
  rw [e x0, e y0, e x1, e y1]
  omega
theorem has_con (x0 y0 x1 y1 x y : Int) : has6 x0 y0 x1 y1 x y = con8 x0 y0 x1 y1 (sat x) (sat y) (sat x) (sat y) := by
  rw [Bool.eq_iff_iff]
  simp only [has6, con8, Bx.has_iff, Bx.con_iff]
  have := Bx.one_ok (x, y)
  simp only [Bx.one] at this
  constructor
  · intro ⟨h, h1⟩; exact ⟨h, this, by omega⟩
  · intro ⟨h, _, h1⟩; exact ⟨h, by omega⟩
def meet8 (x0 y0 x1 y1 fx fy tx ty : Int) : Bool :=
  let s := fun k => orient fx fy tx ty (Bx.cx ⟨x0, y0, x1, y1⟩ k) (Bx.cy ⟨x0, y0, x1, y1⟩ k)
  decide (s 0 = 0) || decide (¬ s 1 = s 0) || decide (¬ s 2 = s 0) || decide (¬ s 3 = s 0)
theorem seg_meet (x0 y0 x1 y1 fx fy tx ty : Int) : seg8 x0 y0 x1 y1 fx fy tx ty = (ovl8 x0 y0 x1 y1 (min (sat fx) (sat tx)) (min (sat fy) (sat ty)) (max (sat fx) (sat tx)) (max (sat fy) (sat ty)) && meet8 x0 y0 x1 y1 fx fy tx ty) := by
  rw [Bool.eq_iff_iff, Bool.and_eq_true]
  have e0 : ovl8 x0 y0 x1 y1 (min (sat fx) (sat tx)) (min (sat fy) (sat ty)) (max (sat fx) (sat tx)) (max (sat fy) (sat ty)) = Bx.ovl ⟨x0, y0, x1, y1⟩ (Bx.two fx fy tx ty) := rfl
  rw [e0, show seg8 x0 y0 x1 y1 fx fy tx ty = Bx.seg ⟨x0, y0, x1, y1⟩ fx fy tx ty from rfl, Bx.seg_iff]
  refine and_congr_right fun _ => ?_
  have hs : ∀ k, Bx.side ⟨x0, y0, x1, y1⟩ fx fy tx ty k = 0 ∨ Bx.side ⟨x0, y0, x1, y1⟩ fx fy tx ty k = 1 ∨ Bx.side ⟨x0, y0, x1, y1⟩ fx fy tx ty k = -1 := fun k => by
    unfold Bx.side orient sgn; split <;> (try split) <;> omega
  have h0 := hs 0; have h1 := hs 1; have h2 := hs 2; have h3 := hs 3
  have q : ∀ s : Int, (∀ k, k < 4 → Bx.side ⟨x0, y0, x1, y1⟩ fx fy tx ty k = s) ↔ Bx.side ⟨x0, y0, x1, y1⟩ fx fy tx ty 0 = s ∧ Bx.side ⟨x0, y0, x1, y1⟩ fx fy tx ty 1 = s ∧ Bx.side ⟨x0, y0, x1, y1⟩ fx fy tx ty 2 = s ∧ Bx.side ⟨x0, y0, x1, y1⟩ fx fy tx ty 3 = s := fun s =>
    ⟨fun h => ⟨h 0 (by omega), h 1 (by omega), h 2 (by omega), h 3 (by omega)⟩, fun ⟨a, b, c, d⟩ k hk => by
      match k, hk with
      | 0, _ => exact a
      | 1, _ => exact b
      | 2, _ => exact c
      | 3, _ => exact d
      | n + 4, h => omega⟩
  rw [q 1, q (-1)]
  simp only [meet8, Bool.or_eq_true, decide_eq_true_eq]
  unfold Bx.side at *
  omega

theorem xvr_b (l h : Int) (w : World) : Calls Try.prog 52 #[.int .i64 l, .int .i64 h] w fun e w' => e = .returned (.bool (vr l h)) ∧ Below w.heap.size w w' := by
  go_enter Try.func52, Try.ntmps52
  go_wp2_with fail
  all_goals (go_ret; refine ⟨?_, bBel⟩; first | rfl | (simp [vr]; done) | (simp [vr]; omega) | (simp [vr]; rw [Bool.eq_iff_iff]; first | (simp; done) | (simp; omega)))

theorem xval_b (x0 y0 x1 y1 : Int) (w : World) : Calls Try.prog 32 #[.agg #[.int .i64 x0, .int .i64 y0, .int .i64 x1, .int .i64 y1]] w fun e w' => e = .returned (.bool (val4 x0 y0 x1 y1)) ∧ Below w.heap.size w w' := by
  rw [val4_vr]
  cases h1 : vr x0 x1
  focus
    go_enter Try.func32, Try.ntmps32
    go_wp2_with (first | (go_at_call 52; (first | (refine Calls.mono (gw_at (boolIs (xvr_b _ _ _) (b := true) (by assumption))) ?_; rintro e w1 ⟨rfl, q, rfl⟩) | (refine Calls.mono (gw_at (boolIs (xvr_b _ _ _) (b := false) (by assumption))) ?_; rintro e w1 ⟨rfl, q, rfl⟩) | (refine Calls.mono (gw_at (xvr_b _ _ _)) ?_; rintro e w1 ⟨rfl, q, rfl⟩))))
    go_ret
    exact ⟨rfl, bBel⟩
  go_enter Try.func32, Try.ntmps32
  go_wp2_with (first | (go_at_call 52; (first | (refine Calls.mono (gw_at (boolIs (xvr_b _ _ _) (b := true) (by assumption))) ?_; rintro e w1 ⟨rfl, q, rfl⟩) | (refine Calls.mono (gw_at (boolIs (xvr_b _ _ _) (b := false) (by assumption))) ?_; rintro e w1 ⟨rfl, q, rfl⟩) | (refine Calls.mono (gw_at (xvr_b _ _ _)) ?_; rintro e w1 ⟨rfl, q, rfl⟩))))
  all_goals (go_ret; refine ⟨?_, bBel⟩; first | rfl | (simp; done) | (simp; omega) | (simp; rw [Bool.eq_iff_iff]; first | (simp; done) | (simp; omega)))

theorem xone_b (x y : Int) (w : World) : Calls Try.prog 34 #[.agg #[.int .i64 x, .int .i64 y]] w fun e w' => e = .returned (.agg #[.int .i64 (sat x), .int .i64 (sat y), .int .i64 (sat x), .int .i64 (sat y)]) ∧ Below w.heap.size w w' := by
  go_enter Try.func34, Try.ntmps34
  go_wp2_with (first | (go_at_call 53; refine Calls.mono (gw_at (sat_b _ _)) ?_; rintro e w1 ⟨rfl, q, rfl⟩))
  repeat
    refine wp_region_gw_tail 7 (by kernel_rfl) (by kernel_rfl) ?_
    simp only [List.take_succ_cons, List.take_zero, List.drop_succ_cons, List.drop_zero]
    repeat (go_big_quiet_step ((first | (go_at_call 53; exact gw_call (sat_b _ _)))))
    refine wpQuiet_nil ?_
    intro w1 hw1
    obtain ⟨q, rfl⟩ := hw1
    go_wp2_with (first | (go_at_call 53; refine Calls.mono (gw_at (sat_b _ _)) ?_; rintro e w1 ⟨rfl, q, rfl⟩))
  exact bodyPost_ret (v := .agg #[.int .i64 (sat x), .int .i64 (sat y), .int .i64 (sat x), .int .i64 (sat y)]) (by simp [results, Try.results34, go_sem]; try (first | with_reducible rfl | exact ⟨rfl, rfl⟩ | exact ⟨rfl, rfl, rfl⟩ | exact ⟨rfl, rfl, rfl, rfl⟩ | exact ⟨rfl, rfl, rfl, rfl, rfl⟩ | exact ⟨rfl, rfl, rfl, rfl, rfl, rfl⟩ | rfl)) rfl ⟨rfl, bBel⟩

theorem xbhull_b (ax0 ay0 ax1 ay1 bx0 by0 bx1 by1 : Int) (w : World) : Calls Try.prog 33 #[.agg #[.int .i64 ax0, .int .i64 ay0, .int .i64 ax1, .int .i64 ay1], .agg #[.int .i64 bx0, .int .i64 by0, .int .i64 bx1, .int .i64 by1]] w fun e w' => e = .returned (.agg #[.int .i64 (min ax0 bx0), .int .i64 (min ay0 by0), .int .i64 (max ax1 bx1), .int .i64 (max ay1 by1)]) ∧ Below w.heap.size w w' := by
  go_enter Try.func33, Try.ntmps33
  go_wp2_with fail
  exact bodyPost_ret (v := .agg #[.int .i64 (min ax0 bx0), .int .i64 (min ay0 by0), .int .i64 (max ax1 bx1), .int .i64 (max ay1 by1)]) (by simp [results, Try.results33, go_sem]; try (first | with_reducible rfl | exact ⟨rfl, rfl⟩ | exact ⟨rfl, rfl, rfl⟩ | exact ⟨rfl, rfl, rfl, rfl⟩ | exact ⟨rfl, rfl, rfl, rfl, rfl⟩ | exact ⟨rfl, rfl, rfl, rfl, rfl, rfl⟩ | rfl)) rfl ⟨rfl, bBel⟩

set_option maxHeartbeats 800000 in
theorem xuni_b (ax0 ay0 ax1 ay1 bx0 by0 bx1 by1 : Int) (w : World) : Calls Try.prog 76 #[.agg #[.int .i64 ax0, .int .i64 ay0, .int .i64 ax1, .int .i64 ay1], .agg #[.int .i64 bx0, .int .i64 by0, .int .i64 bx1, .int .i64 by1]] w fun e w' => e = .returned (.agg #[.int .i64 (Bx.uni ⟨ax0, ay0, ax1, ay1⟩ ⟨bx0, by0, bx1, by1⟩).x0, .int .i64 (Bx.uni ⟨ax0, ay0, ax1, ay1⟩ ⟨bx0, by0, bx1, by1⟩).y0, .int .i64 (Bx.uni ⟨ax0, ay0, ax1, ay1⟩ ⟨bx0, by0, bx1, by1⟩).x1, .int .i64 (Bx.uni ⟨ax0, ay0, ax1, ay1⟩ ⟨bx0, by0, bx1, by1⟩).y1]) ∧ Below w.heap.size w w' := by
  cases h1 : val4 ax0 ay0 ax1 ay1 <;> cases h2 : val4 bx0 by0 bx1 by1
  focus
    rw [show Bx.uni ⟨ax0, ay0, ax1, ay1⟩ ⟨bx0, by0, bx1, by1⟩ = Bx.zero from by simp [Bx.uni, val4_eq, h1, h2]]
    go_enter Try.func76, Try.ntmps76
    go_wp2_with (first | (go_at_call 32; (first | (refine Calls.mono (gw_at (boolIs (xval_b _ _ _ _ _) (b := true) (by assumption))) ?_; rintro e w1 ⟨rfl, q, rfl⟩) | (refine Calls.mono (gw_at (boolIs (xval_b _ _ _ _ _) (b := false) (by assumption))) ?_; rintro e w1 ⟨rfl, q, rfl⟩) | (refine Calls.mono (gw_at (xval_b _ _ _ _ _)) ?_; rintro e w1 ⟨rfl, q, rfl⟩))) | (go_at_call 33; refine Calls.mono (gw_at (xbhull_b _ _ _ _ _ _ _ _ _)) ?_; rintro e w1 ⟨rfl, q, rfl⟩))
    exact bodyPost_ret (v := .agg #[.int .i64 0, .int .i64 0, .int .i64 0, .int .i64 0]) (by simp [results, Try.results76, go_sem]; try (first | with_reducible rfl | exact ⟨rfl, rfl⟩ | exact ⟨rfl, rfl, rfl⟩ | exact ⟨rfl, rfl, rfl, rfl⟩ | exact ⟨rfl, rfl, rfl, rfl, rfl⟩ | exact ⟨rfl, rfl, rfl, rfl, rfl, rfl⟩ | rfl)) rfl ⟨rfl, bBel⟩
  focus
    rw [show Bx.uni ⟨ax0, ay0, ax1, ay1⟩ ⟨bx0, by0, bx1, by1⟩ = ⟨bx0, by0, bx1, by1⟩ from by simp [Bx.uni, val4_eq, h1, h2]]
    go_enter Try.func76, Try.ntmps76
    go_wp2_with (first | (go_at_call 32; (first | (refine Calls.mono (gw_at (boolIs (xval_b _ _ _ _ _) (b := true) (by assumption))) ?_; rintro e w1 ⟨rfl, q, rfl⟩) | (refine Calls.mono (gw_at (boolIs (xval_b _ _ _ _ _) (b := false) (by assumption))) ?_; rintro e w1 ⟨rfl, q, rfl⟩) | (refine Calls.mono (gw_at (xval_b _ _ _ _ _)) ?_; rintro e w1 ⟨rfl, q, rfl⟩))) | (go_at_call 33; refine Calls.mono (gw_at (xbhull_b _ _ _ _ _ _ _ _ _)) ?_; rintro e w1 ⟨rfl, q, rfl⟩))
    exact bodyPost_ret (v := .agg #[.int .i64 bx0, .int .i64 by0, .int .i64 bx1, .int .i64 by1]) (by simp [results, Try.results76, go_sem]; try (first | with_reducible rfl | exact ⟨rfl, rfl⟩ | exact ⟨rfl, rfl, rfl⟩ | exact ⟨rfl, rfl, rfl, rfl⟩ | exact ⟨rfl, rfl, rfl, rfl, rfl⟩ | exact ⟨rfl, rfl, rfl, rfl, rfl, rfl⟩ | rfl)) rfl ⟨rfl, bBel⟩
  focus
    rw [show Bx.uni ⟨ax0, ay0, ax1, ay1⟩ ⟨bx0, by0, bx1, by1⟩ = ⟨ax0, ay0, ax1, ay1⟩ from by simp [Bx.uni, val4_eq, h1, h2]]
    go_enter Try.func76, Try.ntmps76
    go_wp2_with (first | (go_at_call 32; (first | (refine Calls.mono (gw_at (boolIs (xval_b _ _ _ _ _) (b := true) (by assumption))) ?_; rintro e w1 ⟨rfl, q, rfl⟩) | (refine Calls.mono (gw_at (boolIs (xval_b _ _ _ _ _) (b := false) (by assumption))) ?_; rintro e w1 ⟨rfl, q, rfl⟩) | (refine Calls.mono (gw_at (xval_b _ _ _ _ _)) ?_; rintro e w1 ⟨rfl, q, rfl⟩))) | (go_at_call 33; refine Calls.mono (gw_at (xbhull_b _ _ _ _ _ _ _ _ _)) ?_; rintro e w1 ⟨rfl, q, rfl⟩))
    exact bodyPost_ret (v := .agg #[.int .i64 ax0, .int .i64 ay0, .int .i64 ax1, .int .i64 ay1]) (by simp [results, Try.results76, go_sem]; try (first | with_reducible rfl | exact ⟨rfl, rfl⟩ | exact ⟨rfl, rfl, rfl⟩ | exact ⟨rfl, rfl, rfl, rfl⟩ | exact ⟨rfl, rfl, rfl, rfl, rfl⟩ | exact ⟨rfl, rfl, rfl, rfl, rfl, rfl⟩ | rfl)) rfl ⟨rfl, bBel⟩
  rw [show Bx.uni ⟨ax0, ay0, ax1, ay1⟩ ⟨bx0, by0, bx1, by1⟩ = ⟨min ax0 bx0, min ay0 by0, max ax1 bx1, max ay1 by1⟩ from by simp [Bx.uni, val4_eq, h1, h2]]
  go_enter Try.func76, Try.ntmps76
  go_wp2_with (first | (go_at_call 32; (first | (refine Calls.mono (gw_at (boolIs (xval_b _ _ _ _ _) (b := true) (by assumption))) ?_; rintro e w1 ⟨rfl, q, rfl⟩) | (refine Calls.mono (gw_at (boolIs (xval_b _ _ _ _ _) (b := false) (by assumption))) ?_; rintro e w1 ⟨rfl, q, rfl⟩) | (refine Calls.mono (gw_at (xval_b _ _ _ _ _)) ?_; rintro e w1 ⟨rfl, q, rfl⟩))) | (go_at_call 33; refine Calls.mono (gw_at (xbhull_b _ _ _ _ _ _ _ _ _)) ?_; rintro e w1 ⟨rfl, q, rfl⟩))
  exact bodyPost_ret (v := .agg #[.int .i64 (min ax0 bx0), .int .i64 (min ay0 by0), .int .i64 (max ax1 bx1), .int .i64 (max ay1 by1)]) (by simp [results, Try.results76, go_sem]; try (first | with_reducible rfl | exact ⟨rfl, rfl⟩ | exact ⟨rfl, rfl, rfl⟩ | exact ⟨rfl, rfl, rfl, rfl⟩ | exact ⟨rfl, rfl, rfl, rfl, rfl⟩ | exact ⟨rfl, rfl, rfl, rfl, rfl, rfl⟩ | rfl)) rfl ⟨rfl, bBel⟩

theorem xovl_b (ax0 ay0 ax1 ay1 bx0 by0 bx1 by1 : Int) (w : World) : Calls Try.prog 15 #[.agg #[.int .i64 ax0, .int .i64 ay0, .int .i64 ax1, .int .i64 ay1], .agg #[.int .i64 bx0, .int .i64 by0, .int .i64 bx1, .int .i64 by1]] w fun e w' => e = .returned (.bool (ovl8 ax0 ay0 ax1 ay1 bx0 by0 bx1 by1)) ∧ Below w.heap.size w w' := by
  cases h1 : val4 ax0 ay0 ax1 ay1
  focus
    go_enter Try.func15, Try.ntmps15
    go_wp2_with (first | (go_at_call 32; (first | (refine Calls.mono (gw_at (boolIs (xval_b _ _ _ _ _) (b := true) (by assumption))) ?_; rintro e w1 ⟨rfl, q, rfl⟩) | (refine Calls.mono (gw_at (boolIs (xval_b _ _ _ _ _) (b := false) (by assumption))) ?_; rintro e w1 ⟨rfl, q, rfl⟩) | (refine Calls.mono (gw_at (xval_b _ _ _ _ _)) ?_; rintro e w1 ⟨rfl, q, rfl⟩))))
    all_goals (go_ret; refine ⟨?_, bBel⟩; first | rfl | (simp [ovl8, Bx.ovl, val4_eq, h1]; done) | (simp [ovl8, Bx.ovl, val4_eq, h1]; omega) | (simp [ovl8, Bx.ovl, val4_eq, h1]; rw [Bool.eq_iff_iff]; first | (simp; done) | (simp; omega)))
  cases h2 : val4 bx0 by0 bx1 by1
  focus
    go_enter Try.func15, Try.ntmps15
    go_wp2_with (first | (go_at_call 32; (first | (refine Calls.mono (gw_at (boolIs (xval_b _ _ _ _ _) (b := true) (by assumption))) ?_; rintro e w1 ⟨rfl, q, rfl⟩) | (refine Calls.mono (gw_at (boolIs (xval_b _ _ _ _ _) (b := false) (by assumption))) ?_; rintro e w1 ⟨rfl, q, rfl⟩) | (refine Calls.mono (gw_at (xval_b _ _ _ _ _)) ?_; rintro e w1 ⟨rfl, q, rfl⟩))))
    all_goals (go_ret; refine ⟨?_, bBel⟩; first | rfl | (simp [ovl8, Bx.ovl, val4_eq, h1, h2]; done) | (simp [ovl8, Bx.ovl, val4_eq, h1, h2]; omega) | (simp [ovl8, Bx.ovl, val4_eq, h1, h2]; rw [Bool.eq_iff_iff]; first | (simp; done) | (simp; omega)))
  go_enter Try.func15, Try.ntmps15
  go_wp2_with (first | (go_at_call 32; (first | (refine Calls.mono (gw_at (boolIs (xval_b _ _ _ _ _) (b := true) (by assumption))) ?_; rintro e w1 ⟨rfl, q, rfl⟩) | (refine Calls.mono (gw_at (boolIs (xval_b _ _ _ _ _) (b := false) (by assumption))) ?_; rintro e w1 ⟨rfl, q, rfl⟩) | (refine Calls.mono (gw_at (xval_b _ _ _ _ _)) ?_; rintro e w1 ⟨rfl, q, rfl⟩))))
  all_goals (go_ret; refine ⟨?_, bBel⟩; first | rfl | (simp [ovl8, Bx.ovl, val4_eq, h1, h2]; done) | (simp [ovl8, Bx.ovl, val4_eq, h1, h2]; omega) | (simp [ovl8, Bx.ovl, val4_eq, h1, h2]; rw [Bool.eq_iff_iff]; first | (simp; done) | (simp; omega)))

theorem xhp_b (x0 y0 x1 y1 : Int) (w : World) : Calls Try.prog 100 #[.agg #[.int .i64 x0, .int .i64 y0, .int .i64 x1, .int .i64 y1]] w fun e w' => e = .returned (.int .i64 (hp4 x0 y0 x1 y1)) ∧ Below w.heap.size w w' := by
  cases h1 : val4 x0 y0 x1 y1
  focus
    rw [show hp4 x0 y0 x1 y1 = 0 from by simp [hp4, Bx.hp, val4_eq, h1]]
    go_enter Try.func100, Try.ntmps100
    go_wp2_with (first | (go_at_call 32; (first | (refine Calls.mono (gw_at (boolIs (xval_b _ _ _ _ _) (b := true) (by assumption))) ?_; rintro e w1 ⟨rfl, q, rfl⟩) | (refine Calls.mono (gw_at (boolIs (xval_b _ _ _ _ _) (b := false) (by assumption))) ?_; rintro e w1 ⟨rfl, q, rfl⟩) | (refine Calls.mono (gw_at (xval_b _ _ _ _ _)) ?_; rintro e w1 ⟨rfl, q, rfl⟩))) | (go_at_call 102; refine Calls.mono (gw_at (vsub_b _ _ _ _ _)) ?_; rintro e w1 ⟨rfl, q, rfl⟩) | (go_at_call 103; refine Calls.mono (gw_at (add_b _ _ _)) ?_; rintro e w1 ⟨rfl, q, rfl⟩))
    go_ret
    exact ⟨rfl, bBel⟩
  rw [show hp4 x0 y0 x1 y1 = add (sub x1 x0) (sub y1 y0) from by simp [hp4, Bx.hp, val4_eq, h1]]
  go_enter Try.func100, Try.ntmps100
  go_wp2_with (first | (go_at_call 32; (first | (refine Calls.mono (gw_at (boolIs (xval_b _ _ _ _ _) (b := true) (by assumption))) ?_; rintro e w1 ⟨rfl, q, rfl⟩) | (refine Calls.mono (gw_at (boolIs (xval_b _ _ _ _ _) (b := false) (by assumption))) ?_; rintro e w1 ⟨rfl, q, rfl⟩) | (refine Calls.mono (gw_at (xval_b _ _ _ _ _)) ?_; rintro e w1 ⟨rfl, q, rfl⟩))) | (go_at_call 102; refine Calls.mono (gw_at (vsub_b _ _ _ _ _)) ?_; rintro e w1 ⟨rfl, q, rfl⟩) | (go_at_call 103; refine Calls.mono (gw_at (add_b _ _ _)) ?_; rintro e w1 ⟨rfl, q, rfl⟩))
  go_ret
  exact ⟨rfl, bBel⟩

end Go.Proofs.Ytdldlcibjjccpaa

set_option linter.unusedVariables false
namespace Go.Proofs.Ytdldlcibjjccpaa
open Go.RowKit Fx

theorem rfp_b (A : Option Addr) (cap : Nat) (ps : List (Int × Int)) (w : World) (h : Pts w A ps) (hl : ps.length ≤ 4611686018427387904) : Calls Try.prog 73 #[.slice A ps.length cap] w fun e w' => e = .returned (.tuple #[.agg #[.int .i64 (Bx.pts ps).x0, .int .i64 (Bx.pts ps).y0, .int .i64 (Bx.pts ps).x1, .int .i64 (Bx.pts ps).y1], .bool (decide (0 < ps.length))]) ∧ Below w.heap.size w w' := by
  by_cases h0 : 0 < ps.length
  · obtain ⟨b, off, rfl, hc⟩ := h.open h0
    rw [decide_eq_true h0]
    exact rfp1_b b off cap ps w h0 hl hc
  · obtain rfl : ps = [] := List.eq_nil_of_length_eq_zero (by omega)
    exact rfp0_b A cap w

@[go_sem] theorem corner3_0 (c0 c1 c2 c3 c4 c5 : Value) (w : World) : (Instr.index 86 (.agg #[c0, c1, c2, c3, c4, c5]) (.int .i64 0)).run Try.prog w = .ok (.agg #[c0, c1]) w := by kernel_rfl

@[go_sem] theorem corner3_1 (c0 c1 c2 c3 c4 c5 : Value) (w : World) : (Instr.index 86 (.agg #[c0, c1, c2, c3, c4, c5]) (.int .i64 1)).run Try.prog w = .ok (.agg #[c2, c3]) w := by kernel_rfl

@[go_sem] theorem corner3_2 (c0 c1 c2 c3 c4 c5 : Value) (w : World) : (Instr.index 86 (.agg #[c0, c1, c2, c3, c4, c5]) (.int .i64 2)).run Try.prog w = .ok (.agg #[c4, c5]) w := by kernel_rfl

set_option maxHeartbeats 1000000 in
theorem xmeet_b (x0 y0 x1 y1 fx fy tx ty : Int) (w : World) : Calls Try.prog 35 #[.agg #[.int .i64 x0, .int .i64 y0, .int .i64 x1, .int .i64 y1], .agg #[.int .i64 fx, .int .i64 fy], .agg #[.int .i64 tx, .int .i64 ty]] w fun e w' => e = .returned (.bool (meet8 x0 y0 x1 y1 fx fy tx ty)) ∧ Below w.heap.size w w' := by
  by_cases hz : orient fx fy tx ty x0 y0 = 0
  focus
    have z0 : (orient fx fy tx ty x0 y0 == 0) = true := by rw [beq_iff_eq]; exact hz
    rw [show meet8 x0 y0 x1 y1 fx fy tx ty = true from by simp [meet8, Bx.cx, Bx.cy, hz]]
    clear hz
    go_enter Try.func35, Try.ntmps35
    go_wp2_with (first | (go_at_call 54; refine Calls.mono (gw_at (orient_b _ _ _ _ _ _ _)) ?_; rintro e w1 ⟨rfl, q, rfl⟩))
    go_ret
    exact ⟨rfl, bBel⟩
  have z0 : (orient fx fy tx ty x0 y0 == 0) = false := by rw [beq_eq_false_iff_ne]; exact hz
  have hm : meet8 x0 y0 x1 y1 fx fy tx ty = (decide (¬ orient fx fy tx ty x1 y0 = orient fx fy tx ty x0 y0) || decide (¬ orient fx fy tx ty x1 y1 = orient fx fy tx ty x0 y0) || decide (¬ orient fx fy tx ty x0 y1 = orient fx fy tx ty x0 y0)) := by
    simp [meet8, Bx.cx, Bx.cy, hz]
  clear hz
  go_enter Try.func35, Try.ntmps35
  go_wp2_with (first | (go_at_call 54; refine Calls.mono (gw_at (orient_b _ _ _ _ _ _ _)) ?_; rintro e w1 ⟨rfl, q, rfl⟩))
  refine wp_named ?_
  intro W hW
  have k3 : blk W w.heap.size #[.int .i64 x0, .int .i64 y0, .int .i64 x1, .int .i64 y1] 26 := by rw [hW]; exact bBkn
  have k4 : blk W (w.heap.size + 1) #[.int .i64 fx, .int .i64 fy] 24 := by rw [hW]; exact bBkn
  have k5 : blk W (w.heap.size + 1 + 1) #[.int .i64 tx, .int .i64 ty] 24 := by rw [hW]; exact bBkn
  have hb : Below w.heap.size w W := by rw [hW]; exact bBel
  clear hW
  have ok3 := blk_older k3
  have ck3_0 : _ = some _ := blk_cell k3 0
  have ck3_1 : _ = some _ := blk_cell k3 1
  have ck3_2 : _ = some _ := blk_cell k3 2
  have ck3_3 : _ = some _ := blk_cell k3 3
  have fk3_0 := blk_free k3 0
  have fk3_1 := blk_free k3 1
  have fk3_2 := blk_free k3 2
  have fk3_3 := blk_free k3 3
  have ok4 := blk_older k4
  have ck4_0 : _ = some _ := blk_cell k4 0
  have ck4_1 : _ = some _ := blk_cell k4 1
  have fk4_0 := blk_free k4 0
  have fk4_1 := blk_free k4 1
  have ok5 := blk_older k5
  have ck5_0 : _ = some _ := blk_cell k5 0
  have ck5_1 : _ = some _ := blk_cell k5 1
  have fk5_0 := blk_free k5 0
  have fk5_1 := blk_free k5 1
  have hsz := hb.size
  go_loopw [34] (fun i wr => ∃ k : Nat, k ≤ 3 ∧ i = .int .i64 k ∧ (1 ≤ k → orient fx fy tx ty x1 y0 = orient fx fy tx ty x0 y0) ∧ (2 ≤ k → orient fx fy tx ty x1 y1 = orient fx fy tx ty x0 y0) ∧ (3 ≤ k → orient fx fy tx ty x0 y1 = orient fx fy tx ty x0 y0) ∧ ∃ p, wr = gw W p)
    (fun i _ => (3 - intOf i).toNat)
  case atStart => exact ⟨0, by omega, rfl, by omega, by omega, by omega, ⟨⟨W.drawn, #[]⟩, by unfold gw; simp⟩⟩
  case round =>
    obtain ⟨k, hk, rfl, q1, q2, q3, p, rfl⟩ := hrel
    rcases (by omega : k = 0 ∨ k = 1 ∨ k = 2 ∨ k = 3) with rfl | rfl | rfl | rfl
    focus
      by_cases d : orient fx fy tx ty x1 y0 = orient fx fy tx ty x0 y0
      focus
        have d' : (orient fx fy tx ty x1 y0 == orient fx fy tx ty x0 y0) = true := by rw [beq_iff_eq]; exact d
        go_wp2_with (first | (go_at_call 54; refine Calls.mono (gw_at (orient_b _ _ _ _ _ _ _)) ?_; rintro e w1 ⟨rfl, q, rfl⟩))
        refine ⟨⟨1, by omega, by go_num, fun _ => d, by omega, by omega, gw_of_below bBel⟩, by (try go_num); simp [intOf]; (try omega)⟩
      focus
        have d' : (orient fx fy tx ty x1 y0 == orient fx fy tx ty x0 y0) = false := by rw [beq_eq_false_iff_ne]; exact d
        go_wp2_with (first | (go_at_call 54; refine Calls.mono (gw_at (orient_b _ _ _ _ _ _ _)) ?_; rintro e w1 ⟨rfl, q, rfl⟩))
        go_ret
        exact ⟨by simp [hm, d], bBel⟩
    focus
      by_cases d : orient fx fy tx ty x1 y1 = orient fx fy tx ty x0 y0
      focus
        have d' : (orient fx fy tx ty x1 y1 == orient fx fy tx ty x0 y0) = true := by rw [beq_iff_eq]; exact d
        go_wp2_with (first | (go_at_call 54; refine Calls.mono (gw_at (orient_b _ _ _ _ _ _ _)) ?_; rintro e w1 ⟨rfl, q, rfl⟩))
        refine ⟨⟨2, by omega, by go_num, fun _ => q1 (by omega), fun _ => d, by omega, gw_of_below bBel⟩, by (try go_num); simp [intOf]; (try omega)⟩
      focus
        have d' : (orient fx fy tx ty x1 y1 == orient fx fy tx ty x0 y0) = false := by rw [beq_eq_false_iff_ne]; exact d
        go_wp2_with (first | (go_at_call 54; refine Calls.mono (gw_at (orient_b _ _ _ _ _ _ _)) ?_; rintro e w1 ⟨rfl, q, rfl⟩))
        go_ret
        exact ⟨by simp [hm, d], bBel⟩
    focus
      by_cases d : orient fx fy tx ty x0 y1 = orient fx fy tx ty x0 y0
      focus
        have d' : (orient fx fy tx ty x0 y1 == orient fx fy tx ty x0 y0) = true := by rw [beq_iff_eq]; exact d
        go_wp2_with (first | (go_at_call 54; refine Calls.mono (gw_at (orient_b _ _ _ _ _ _ _)) ?_; rintro e w1 ⟨rfl, q, rfl⟩))
        refine ⟨⟨3, by omega, by go_num, fun _ => q1 (by omega), fun _ => q2 (by omega), fun _ => d, gw_of_below bBel⟩, by (try go_num); simp [intOf]; (try omega)⟩
      focus
        have d' : (orient fx fy tx ty x0 y1 == orient fx fy tx ty x0 y0) = false := by rw [beq_eq_false_iff_ne]; exact d
        go_wp2_with (first | (go_at_call 54; refine Calls.mono (gw_at (orient_b _ _ _ _ _ _ _)) ?_; rintro e w1 ⟨rfl, q, rfl⟩))
        go_ret
        exact ⟨by simp [hm, d], bBel⟩
    focus
      go_wp2_with (first | (go_at_call 54; refine Calls.mono (gw_at (orient_b _ _ _ _ _ _ _)) ?_; rintro e w1 ⟨rfl, q, rfl⟩))
      go_ret
      exact ⟨by simp [hm, q1, q2, q3], bBel⟩

theorem xseg_b (x0 y0 x1 y1 fx fy tx ty : Int) (w : World) : Calls Try.prog 16 #[.agg #[.int .i64 x0, .int .i64 y0, .int .i64 x1, .int .i64 y1], .agg #[.int .i64 fx, .int .i64 fy], .agg #[.int .i64 tx, .int .i64 ty]] w fun e w' => e = .returned (.bool (seg8 x0 y0 x1 y1 fx fy tx ty)) ∧ Below w.heap.size w w' := by
  rw [seg_meet]
  cases h0 : ovl8 x0 y0 x1 y1 (min (sat fx) (sat tx)) (min (sat fy) (sat ty)) (max (sat fx) (sat tx)) (max (sat fy) (sat ty))
  focus
    go_enter Try.func16, Try.ntmps16
    go_wp2_with (first | (go_at_call 34; refine Calls.mono (gw_at (xone_b _ _ _)) ?_; rintro e w1 ⟨rfl, q, rfl⟩) | (go_at_call 33; refine Calls.mono (gw_at (xbhull_b _ _ _ _ _ _ _ _ _)) ?_; rintro e w1 ⟨rfl, q, rfl⟩) | (go_at_call 15; (first | (refine Calls.mono (gw_at (boolIs (xovl_b _ _ _ _ _ _ _ _ _) (b := true) (by assumption))) ?_; rintro e w1 ⟨rfl, q, rfl⟩) | (refine Calls.mono (gw_at (boolIs (xovl_b _ _ _ _ _ _ _ _ _) (b := false) (by assumption))) ?_; rintro e w1 ⟨rfl, q, rfl⟩) | (refine Calls.mono (gw_at (xovl_b _ _ _ _ _ _ _ _ _)) ?_; rintro e w1 ⟨rfl, q, rfl⟩))) | (go_at_call 35; (first | (refine Calls.mono (gw_at (boolIs (xmeet_b _ _ _ _ _ _ _ _ _) (b := true) (by assumption))) ?_; rintro e w1 ⟨rfl, q, rfl⟩) | (refine Calls.mono (gw_at (boolIs (xmeet_b _ _ _ _ _ _ _ _ _) (b := false) (by assumption))) ?_; rintro e w1 ⟨rfl, q, rfl⟩) | (refine Calls.mono (gw_at (xmeet_b _ _ _ _ _ _ _ _ _)) ?_; rintro e w1 ⟨rfl, q, rfl⟩))))
    repeat
      apply wp_box1 6 22 5 7 #[.int .i64 0, .int .i64 0, .int .i64 0, .int .i64 0] 26 (by kernel_rfl) (by rfl) (by kernel_rfl) (by intro o ho a w; simp at ho; subst ho; simp [go_sem, ptr])
      · intro p0
        simp only [heads, ghost, List.take_succ_cons, List.take_zero, List.map_cons, List.map_nil]
        repeat (go_big_quiet_step ((first | (go_at_call 34; exact gw_call (xone_b _ _ _)) | (go_at_call 33; exact gw_call (xbhull_b _ _ _ _ _ _ _ _ _)) | (go_at_call 15; (first | (exact gw_call (boolIs (xovl_b _ _ _ _ _ _ _ _ _) (b := true) (by assumption))) | (exact gw_call (boolIs (xovl_b _ _ _ _ _ _ _ _ _) (b := false) (by assumption))) | (exact gw_call (xovl_b _ _ _ _ _ _ _ _ _)))) | (go_at_call 35; (first | (exact gw_call (boolIs (xmeet_b _ _ _ _ _ _ _ _ _) (b := true) (by assumption))) | (exact gw_call (boolIs (xmeet_b _ _ _ _ _ _ _ _ _) (b := false) (by assumption))) | (exact gw_call (xmeet_b _ _ _ _ _ _ _ _ _)))))))
        exact wpQuiet_nil rfl
      · intro R bB p0 nB gB  kB hK
        simp only [List.drop_succ_cons, List.drop_zero, Act.put, ptr, List.setIfInBounds_toArray, List.set_cons_succ, List.set_cons_zero]
        have cB_0 : _ = some _ := blk_cell kB 0
        have cB_1 : _ = some _ := blk_cell kB 1
        have cB_2 : _ = some _ := blk_cell kB 2
        have cB_3 : _ = some _ := blk_cell kB 3
        have fB_0 := blk_free kB 0
        have fB_1 := blk_free kB 1
        have fB_2 := blk_free kB 2
        have fB_3 := blk_free kB 3
        have oB := blk_older kB
        go_wp2_with fail
        refine box_end1 gB hK ?_ ?_
        · exact bBel
        · exact (by repeat' (first | with_reducible assumption | with_reducible apply blk_gw | with_reducible apply blk_alloc | with_reducible apply blk_set | ((with_reducible apply blk_other); focus (first | omega | assumption))))
      intro bB p0 nB  kB
      have cB_0 : _ = some _ := blk_cell kB 0
      have cB_1 : _ = some _ := blk_cell kB 1
      have cB_2 : _ = some _ := blk_cell kB 2
      have cB_3 : _ = some _ := blk_cell kB 3
      have fB_0 := blk_free kB 0
      have fB_1 := blk_free kB 1
      have fB_2 := blk_free kB 2
      have fB_3 := blk_free kB 3
      have oB := blk_older kB
      go_wp2_with (first | (go_at_call 34; refine Calls.mono (gw_at (xone_b _ _ _)) ?_; rintro e w1 ⟨rfl, q, rfl⟩) | (go_at_call 33; refine Calls.mono (gw_at (xbhull_b _ _ _ _ _ _ _ _ _)) ?_; rintro e w1 ⟨rfl, q, rfl⟩) | (go_at_call 15; (first | (refine Calls.mono (gw_at (boolIs (xovl_b _ _ _ _ _ _ _ _ _) (b := true) (by assumption))) ?_; rintro e w1 ⟨rfl, q, rfl⟩) | (refine Calls.mono (gw_at (boolIs (xovl_b _ _ _ _ _ _ _ _ _) (b := false) (by assumption))) ?_; rintro e w1 ⟨rfl, q, rfl⟩) | (refine Calls.mono (gw_at (xovl_b _ _ _ _ _ _ _ _ _)) ?_; rintro e w1 ⟨rfl, q, rfl⟩))) | (go_at_call 35; (first | (refine Calls.mono (gw_at (boolIs (xmeet_b _ _ _ _ _ _ _ _ _) (b := true) (by assumption))) ?_; rintro e w1 ⟨rfl, q, rfl⟩) | (refine Calls.mono (gw_at (boolIs (xmeet_b _ _ _ _ _ _ _ _ _) (b := false) (by assumption))) ?_; rintro e w1 ⟨rfl, q, rfl⟩) | (refine Calls.mono (gw_at (xmeet_b _ _ _ _ _ _ _ _ _)) ?_; rintro e w1 ⟨rfl, q, rfl⟩))))
    all_goals (go_ret; refine ⟨?_, bBel⟩; first | rfl | (simp; done) | (simp; omega) | (simp; rw [Bool.eq_iff_iff]; first | (simp; done) | (simp; omega)))
  go_enter Try.func16, Try.ntmps16
  go_wp2_with (first | (go_at_call 34; refine Calls.mono (gw_at (xone_b _ _ _)) ?_; rintro e w1 ⟨rfl, q, rfl⟩) | (go_at_call 33; refine Calls.mono (gw_at (xbhull_b _ _ _ _ _ _ _ _ _)) ?_; rintro e w1 ⟨rfl, q, rfl⟩) | (go_at_call 15; (first | (refine Calls.mono (gw_at (boolIs (xovl_b _ _ _ _ _ _ _ _ _) (b := true) (by assumption))) ?_; rintro e w1 ⟨rfl, q, rfl⟩) | (refine Calls.mono (gw_at (boolIs (xovl_b _ _ _ _ _ _ _ _ _) (b := false) (by assumption))) ?_; rintro e w1 ⟨rfl, q, rfl⟩) | (refine Calls.mono (gw_at (xovl_b _ _ _ _ _ _ _ _ _)) ?_; rintro e w1 ⟨rfl, q, rfl⟩))) | (go_at_call 35; (first | (refine Calls.mono (gw_at (boolIs (xmeet_b _ _ _ _ _ _ _ _ _) (b := true) (by assumption))) ?_; rintro e w1 ⟨rfl, q, rfl⟩) | (refine Calls.mono (gw_at (boolIs (xmeet_b _ _ _ _ _ _ _ _ _) (b := false) (by assumption))) ?_; rintro e w1 ⟨rfl, q, rfl⟩) | (refine Calls.mono (gw_at (xmeet_b _ _ _ _ _ _ _ _ _)) ?_; rintro e w1 ⟨rfl, q, rfl⟩))))
  repeat
    apply wp_box1 6 22 5 7 #[.int .i64 0, .int .i64 0, .int .i64 0, .int .i64 0] 26 (by kernel_rfl) (by rfl) (by kernel_rfl) (by intro o ho a w; simp at ho; subst ho; simp [go_sem, ptr])
    · intro p0
      simp only [heads, ghost, List.take_succ_cons, List.take_zero, List.map_cons, List.map_nil]
      repeat (go_big_quiet_step ((first | (go_at_call 34; exact gw_call (xone_b _ _ _)) | (go_at_call 33; exact gw_call (xbhull_b _ _ _ _ _ _ _ _ _)) | (go_at_call 15; (first | (exact gw_call (boolIs (xovl_b _ _ _ _ _ _ _ _ _) (b := true) (by assumption))) | (exact gw_call (boolIs (xovl_b _ _ _ _ _ _ _ _ _) (b := false) (by assumption))) | (exact gw_call (xovl_b _ _ _ _ _ _ _ _ _)))) | (go_at_call 35; (first | (exact gw_call (boolIs (xmeet_b _ _ _ _ _ _ _ _ _) (b := true) (by assumption))) | (exact gw_call (boolIs (xmeet_b _ _ _ _ _ _ _ _ _) (b := false) (by assumption))) | (exact gw_call (xmeet_b _ _ _ _ _ _ _ _ _)))))))
      exact wpQuiet_nil rfl
    · intro R bB p0 nB gB  kB hK
      simp only [List.drop_succ_cons, List.drop_zero, Act.put, ptr, List.setIfInBounds_toArray, List.set_cons_succ, List.set_cons_zero]
      have cB_0 : _ = some _ := blk_cell kB 0
      have cB_1 : _ = some _ := blk_cell kB 1
      have cB_2 : _ = some _ := blk_cell kB 2
      have cB_3 : _ = some _ := blk_cell kB 3
      have fB_0 := blk_free kB 0
      have fB_1 := blk_free kB 1
      have fB_2 := blk_free kB 2
      have fB_3 := blk_free kB 3
      have oB := blk_older kB
      go_wp2_with fail
      refine box_end1 gB hK ?_ ?_
      · exact bBel
      · exact (by repeat' (first | with_reducible assumption | with_reducible apply blk_gw | with_reducible apply blk_alloc | with_reducible apply blk_set | ((with_reducible apply blk_other); focus (first | omega | assumption))))
    intro bB p0 nB  kB
    have cB_0 : _ = some _ := blk_cell kB 0
    have cB_1 : _ = some _ := blk_cell kB 1
    have cB_2 : _ = some _ := blk_cell kB 2
    have cB_3 : _ = some _ := blk_cell kB 3
    have fB_0 := blk_free kB 0
    have fB_1 := blk_free kB 1
    have fB_2 := blk_free kB 2
    have fB_3 := blk_free kB 3
    have oB := blk_older kB
    go_wp2_with (first | (go_at_call 34; refine Calls.mono (gw_at (xone_b _ _ _)) ?_; rintro e w1 ⟨rfl, q, rfl⟩) | (go_at_call 33; refine Calls.mono (gw_at (xbhull_b _ _ _ _ _ _ _ _ _)) ?_; rintro e w1 ⟨rfl, q, rfl⟩) | (go_at_call 15; (first | (refine Calls.mono (gw_at (boolIs (xovl_b _ _ _ _ _ _ _ _ _) (b := true) (by assumption))) ?_; rintro e w1 ⟨rfl, q, rfl⟩) | (refine Calls.mono (gw_at (boolIs (xovl_b _ _ _ _ _ _ _ _ _) (b := false) (by assumption))) ?_; rintro e w1 ⟨rfl, q, rfl⟩) | (refine Calls.mono (gw_at (xovl_b _ _ _ _ _ _ _ _ _)) ?_; rintro e w1 ⟨rfl, q, rfl⟩))) | (go_at_call 35; (first | (refine Calls.mono (gw_at (boolIs (xmeet_b _ _ _ _ _ _ _ _ _) (b := true) (by assumption))) ?_; rintro e w1 ⟨rfl, q, rfl⟩) | (refine Calls.mono (gw_at (boolIs (xmeet_b _ _ _ _ _ _ _ _ _) (b := false) (by assumption))) ?_; rintro e w1 ⟨rfl, q, rfl⟩) | (refine Calls.mono (gw_at (xmeet_b _ _ _ _ _ _ _ _ _)) ?_; rintro e w1 ⟨rfl, q, rfl⟩))))
  all_goals (go_ret; refine ⟨?_, bBel⟩; first | rfl | (simp; done) | (simp; omega) | (simp; rw [Bool.eq_iff_iff]; first | (simp; done) | (simp; omega)))

end Go.Proofs.Ytdldlcibjjccpaa
