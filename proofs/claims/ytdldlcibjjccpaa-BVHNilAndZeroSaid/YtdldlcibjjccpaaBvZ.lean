/- Chapter 20: rows as values that are not written out; EqualInts, EqualPairs, MaxHeight. -/
import Derived.Test.YtdldlcibjjccpaaBvX
import Derived.Deep.DeepCutAuto
set_option linter.unusedVariables false
set_option linter.unusedSimpArgs false
namespace Go.Proofs.Ytdldlcibjjccpaa
open Go.RowKit Fx

section
variable {P : Program} {SL E : TypeId} {sz B n : Nat} {v : Value} {xs : List Value} {w : World}
theorem row_len (hu : P.underlying SL = some (.slice E)) (h : w.ownsRow B E sz v n xs) (ty : TypeId) (W : World) : (Builtin.len_ #[SL] ty #[v]).run P W = .ok (.int .i64 (n : Int)) W := by
  obtain ⟨_, ⟨rfl, rfl⟩ | ⟨g, cap, cur, rfl, hB, hh, hn, hm, hc, ht⟩⟩ := h <;> simp [Builtin.len_, run_underlying hu] <;> rfl
theorem row_ix (hu : P.underlying SL = some (.slice E)) (hs : ∀ W, (Go.sizeOf E).run P W = .ok sz W) (h : w.ownsRow B E sz v n xs) {i : Nat} (hi : i < n) (hl : xs.length = n * sz) :
    ∃ g, g < w.heap.size ∧ v.ownBlock = some g ∧ (∀ W, (Instr.indexAt SL v (.int .i64 (i : Int))).run P W = .ok (.pointer (some ⟨g, i * sz, none⟩)) W) ∧ ∀ j, j < sz → w.cell? ⟨g, i * sz + j, none⟩ = xs[i * sz + j]? := by
  obtain ⟨_, ⟨rfl, rfl⟩ | ⟨g, cap, cur, rfl, hB, hh, hn, hm, hc, ht⟩⟩ := h
  · omega
  · refine ⟨g, (Array.getElem?_eq_some_iff.1 hh).1, rfl, fun W => ?_, fun j hj => ?_⟩
    · have e : Addr.add ⟨g, 0, none⟩ (i * sz) = ⟨g, i * sz, none⟩ := by
        unfold Addr.add; split
        · rename_i h0; rw [h0]
        · simp
      simp [Instr.indexAt, run_underlying hu, asIntOf, hs, hi, e, go_sem]
    · have hb : blk w g cur E := hh
      have hlt : i * sz + j < n * sz := by
        have : (i + 1) * sz ≤ n * sz := Nat.mul_le_mul_right _ hi
        rw [Nat.add_mul] at this; omega
      rw [blk_cell hb, ← ht, List.getElem?_take, if_pos hlt]
      simp
theorem owns_but {w' : World} {S : Nat → Prop} (h : w.ownsRow B E sz v n xs) (hb : But S w w') (hs : ∀ k, v.ownBlock = some k → ¬ S k) : w'.ownsRow B E sz v n xs := by
  obtain ⟨h1, h2 | ⟨g, cap, cur, rfl, hB, hh, r⟩⟩ := h
  · exact ⟨h1, .inl h2⟩
  · exact ⟨h1, .inr ⟨g, cap, cur, rfl, hB, (hb.block g (Array.getElem?_eq_some_iff.1 hh).1 (hs g rfl)).trans hh, r⟩⟩
end

theorem iv_at (xs : List Int) (k : Nat) (h : k < xs.length) : (iv xs)[k]? = some (.int .i64 xs[k]) := by simp [iv, h]
theorem pv_at : ∀ (ps : List (Int × Int)) (k : Nat) (h : k < ps.length), (pv ps)[k * 2]? = some (.int .i64 ps[k].1) ∧ (pv ps)[k * 2 + 1]? = some (.int .i64 ps[k].2)
  | p :: ps, 0, _ => ⟨rfl, rfl⟩
  | p :: ps, k + 1, h => by
    have := pv_at ps k (by simpa using h)
    rw [show (k + 1) * 2 = k * 2 + 2 by omega, show k * 2 + 2 + 1 = (k * 2 + 1) + 2 by omega]
    simpa [pv] using this
theorem pv_len20 : ∀ ps : List (Int × Int), (pv ps).length = ps.length * 2
  | [] => rfl
  | p :: ps => by simp [pv, pv_len20 ps]; omega

theorem sz_int (W : World) : (Go.sizeOf 3).run Try.prog W = .ok 1 W := by kernel_rfl

theorem sz_pair (W : World) : (Go.sizeOf 41).run Try.prog W = .ok 2 W := by kernel_rfl

theorem u_ints : Try.prog.underlying 30 = some (.slice 3) := by kernel_rfl

theorem u_pairs : Try.prog.underlying 36 = some (.slice 41) := by kernel_rfl

theorem ints_ix {w : World} {B : Nat} {v : Value} {xs : List Int} (h : w.ownsRow B 3 1 v xs.length (iv xs)) {k : Nat} (hk : k < xs.length) : ∃ g, v.ownBlock = some g ∧ (∀ W, (Instr.indexAt 30 v (.int .i64 (k : Int))).run Try.prog W = .ok (.pointer (some ⟨g, k, none⟩)) W) ∧ ∀ w', Below w.heap.size w w' → older g w' = true ∧ w'.cell? ⟨g, k, none⟩ = some (.int .i64 xs[k]) := by
  obtain ⟨g, h1, h2, h3, h4⟩ := row_ix u_ints sz_int h hk (by simp)
  simp only [Nat.mul_one] at h3 h4
  refine ⟨g, h2, h3, fun w' hb => ?_⟩
  have := h4 0 (by decide)
  rw [Nat.add_zero, iv_at xs k hk] at this
  exact ⟨older_iff.2 (Nat.lt_of_lt_of_le h1 hb.size), (hb.cell (p := ⟨g, k, none⟩) h1).trans this⟩

theorem pairs_ix {w : World} {B : Nat} {v : Value} {xs : List (Int × Int)} (h : w.ownsRow B 41 2 v xs.length (pv xs)) {k : Nat} (hk : k < xs.length) : ∃ g, v.ownBlock = some g ∧ (∀ W, (Instr.indexAt 36 v (.int .i64 (k : Int))).run Try.prog W = .ok (.pointer (some ⟨g, k * 2, none⟩)) W) ∧ ∀ w', Below w.heap.size w w' → older g w' = true ∧ w'.cell? ⟨g, k * 2, none⟩ = some (.int .i64 xs[k].1) ∧ w'.cell? ⟨g, k * 2 + 1, none⟩ = some (.int .i64 xs[k].2) := by
  obtain ⟨g, h1, h2, h3, h4⟩ := row_ix u_pairs sz_pair h hk (pv_len20 xs)
  refine ⟨g, h2, h3, fun w' hb => ?_⟩
  have a := h4 0 (by decide)
  have b := h4 1 (by decide)
  rw [Nat.add_zero, (pv_at xs k hk).1] at a
  rw [(pv_at xs k hk).2] at b
  exact ⟨older_iff.2 (Nat.lt_of_lt_of_le h1 hb.size), (hb.cell (p := ⟨g, k * 2, none⟩) h1).trans a, (hb.cell (p := ⟨g, k * 2 + 1, none⟩) h1).trans b⟩

theorem take_eq_succ {α : Type} {xs ys : List α} {k : Nat} (h : xs.take k = ys.take k) (h1 : k < xs.length) (h2 : k < ys.length) (he : xs[k] = ys[k]) : xs.take (k + 1) = ys.take (k + 1) := by
  rw [List.take_add_one, List.take_add_one, List.getElem?_eq_getElem h1, List.getElem?_eq_getElem h2, h, he]

theorem u_pair : Try.prog.underlying 41 = some (.array 2 3) := by kernel_rfl

theorem u_int : Try.prog.underlying 3 = some (.int .i64) := by kernel_rfl

theorem agg_int (W : World) : (isAgg 3).run Try.prog W = .ok false W := by kernel_rfl

theorem eq_pair (d : Nat) (a b c e : Int) (W : World) : (Op.equalIn (d + 2) 41 (.agg #[.int .i64 a, .int .i64 b]) (.agg #[.int .i64 c, .int .i64 e])).run Try.prog W = .ok (a == c && b == e) W := by
  have hi := fun x y => run_equalIn_int (P := Try.prog) W d 3 .i64 .i64 x y u_int
  rw [Op.equalIn]
  simp only [Sem.run_bind, run_underlying u_pair, Result.andThen]
  simp [go_sem, List.range', Sem.run_bind, agg_int, hi, Result.andThen]
  by_cases h1 : a = c
  · by_cases h2 : b = e
    · simp [h1, h2, Sem.run_bind, Result.andThen, agg_int, hi]
    · simp [h1, h2, Sem.run_bind, Result.andThen, agg_int, hi]
  · simp [h1, Sem.run_bind, Result.andThen, agg_int, hi]

theorem neq_pair (a b c e : Int) (W : World) : (binOp .neq 41 (.agg #[.int .i64 a, .int .i64 b]) (.agg #[.int .i64 c, .int .i64 e])).run Try.prog W = .ok (.bool (!(a == c && b == e))) W := by
  rw [run_neq_struct]
  have := eq_pair 9998 a b c e W
  simp only [this, Result.andThen]

set_option maxRecDepth 100000 in
set_option maxHeartbeats 4000000 in
theorem eqints_b (B1 B2 : Nat) (v1 v2 : Value) (xs ys : List Int) (w : World) (h1 : w.ownsRow B1 3 1 v1 xs.length (iv xs)) (h2 : w.ownsRow B2 3 1 v2 ys.length (iv ys)) (D : Bool) (hD : decide (xs = ys) = D) (hx : xs.length ≤ 1000000000) : Calls Try.prog 18 #[v1, v2] w fun e w' => e = .returned (.bool D) ∧ Below w.heap.size w w' := by
  have l1 := fun ty W => row_len u_ints h1 ty W
  have l2 := fun ty W => row_len u_ints h2 ty W
  by_cases hl : xs.length = ys.length
  rotate_left
  · obtain rfl : D = false := by rw [← hD]; simp; intro e; exact hl (by rw [e])
    clear h1 h2 hD
    generalize xs.length = n at *
    generalize ys.length = m at *
    go_enter Try.func18, Try.ntmps18
    go_wp2_with fail
    go_ret
    exact ⟨rfl, bBel⟩
  have i1 := fun k (hk : k < xs.length) => ints_ix h1 hk
  have i2 := fun k (hk : k < ys.length) => ints_ix h2 hk
  have hD2 : Hid (decide (xs = ys) = D) := hD
  have hlh : Hid (xs.length = ys.length) := hl
  rw [← hl] at l2
  clear h1 h2 hD hl
  obtain ⟨n, hn⟩ : ∃ n, Hid (xs.length = n) := ⟨_, rfl⟩
  rw [hn.out] at l1 l2 hx
  go_enter Try.func18, Try.ntmps18
  go_wp2_with fail
  go_loopw [5] (fun i wr => ∃ k : Nat, k ≤ n ∧ i = .int .i64 (k : Int) ∧ Hid (xs.take k = ys.take k) ∧ Below w.heap.size w wr) (fun i _ => n - (intOf i).toNat)
  case atStart => exact ⟨0, by omega, rfl, rfl, bBel⟩
  case round =>
    obtain ⟨k, hk, rfl, hT, hb⟩ := hrel
    have hszR := hb.size
    by_cases hkn : k < n
    · have q1 : k < xs.length := by have := hn.out; omega
      have q2 : k < ys.length := by have := hn.out; have := hlh.out; omega
      obtain ⟨g1, -, j1, c1⟩ := i1 k q1
      obtain ⟨g2, -, j2, c2⟩ := i2 k q2
      obtain ⟨o1, d1⟩ := c1 wr hb
      obtain ⟨o2, d2⟩ := c2 wr hb
      obtain ⟨x, hx'⟩ : ∃ x, xs[k] = x := ⟨_, rfl⟩
      have hx : Hid (xs[k] = x) := hx'
      clear hx'
      obtain ⟨y, hy'⟩ : ∃ y, ys[k] = y := ⟨_, rfl⟩
      have hy : Hid (ys[k] = y) := hy'
      clear hy'
      rw [hx.out] at d1
      rw [hy.out] at d2
      clear c1 c2 i1 i2
      by_cases hxy : x = y
      · have hT2 : Hid (xs.take (k + 1) = ys.take (k + 1)) := take_eq_succ hT.out q1 q2 (by rw [hx.out, hy.out]; exact hxy)
        clear hx hy q1 q2
        subst hxy
        have bf : (x != x) = false := by simp
        go_wp2_with fail
        refine wp_region_gw (by kernel_rfl) (by kernel_rfl) ?_
        repeat (go_big_quiet_step (fail))
        refine wpQuiet_nil ?_
        intro w1 hw1
        obtain ⟨q, rfl⟩ := hw1
        go_wp2_with fail
        refine ⟨⟨k + 1, by omega, by go_num, hT2, bBel⟩, by (try go_num); simp [intOf]; (try omega)⟩
      · obtain rfl : D = false := by
          rw [← hD2.out]; simp; intro e; apply hxy; rw [← hx.out, ← hy.out]; subst e; rfl
        clear hx hy q1 q2
        have bt : (x != y) = true := by simp [hxy]
        clear hxy
        go_wp2_with fail
        refine wp_region_gw (by kernel_rfl) (by kernel_rfl) ?_
        repeat (go_big_quiet_step (fail))
        refine wpQuiet_nil ?_
        intro w1 hw1
        obtain ⟨q, rfl⟩ := hw1
        go_wp2_with fail
        go_ret
        exact ⟨rfl, bBel⟩
    · obtain rfl : D = true := by
        have hlx : k = n := by omega
        rw [← hD2.out]
        have := hT.out
        rw [List.take_of_length_le (by have := hn.out; omega), List.take_of_length_le (by have := hn.out; have := hlh.out; omega)] at this
        simp [this]
      clear i1 i2
      go_wp2_with fail
      go_ret
      exact ⟨rfl, bBel⟩

set_option maxRecDepth 100000 in
set_option maxHeartbeats 4000000 in
theorem eqpairs_b (B1 B2 : Nat) (v1 v2 : Value) (xs ys : List (Int × Int)) (w : World) (h1 : w.ownsRow B1 41 2 v1 xs.length (pv xs)) (h2 : w.ownsRow B2 41 2 v2 ys.length (pv ys)) (D : Bool) (hD : decide (xs = ys) = D) (hx : xs.length ≤ 1000000000) : Calls Try.prog 21 #[v1, v2] w fun e w' => e = .returned (.bool D) ∧ Below w.heap.size w w' := by
  have l1 := fun ty W => row_len u_pairs h1 ty W
  have l2 := fun ty W => row_len u_pairs h2 ty W
  by_cases hl : xs.length = ys.length
  rotate_left
  · obtain rfl : D = false := by rw [← hD]; simp; intro e; exact hl (by rw [e])
    clear h1 h2 hD
    generalize xs.length = n at *
    generalize ys.length = m at *
    go_enter Try.func21, Try.ntmps21
    go_wp2_with fail
    go_ret
    exact ⟨rfl, bBel⟩
  have i1 := fun k (hk : k < xs.length) => pairs_ix h1 hk
  have i2 := fun k (hk : k < ys.length) => pairs_ix h2 hk
  have hD2 : Hid (decide (xs = ys) = D) := hD
  have hlh : Hid (xs.length = ys.length) := hl
  rw [← hl] at l2
  clear h1 h2 hD hl
  obtain ⟨n, hn⟩ : ∃ n, Hid (xs.length = n) := ⟨_, rfl⟩
  rw [hn.out] at l1 l2 hx
  go_enter Try.func21, Try.ntmps21
  go_wp2_with fail
  go_loopw [5] (fun i wr => ∃ k : Nat, k ≤ n ∧ i = .int .i64 (k : Int) ∧ Hid (xs.take k = ys.take k) ∧ Below w.heap.size w wr) (fun i _ => n - (intOf i).toNat)
  case atStart => exact ⟨0, by omega, rfl, rfl, bBel⟩
  case round =>
    obtain ⟨k, hk, rfl, hT, hb⟩ := hrel
    have hszR := hb.size
    by_cases hkn : k < n
    · have q1 : k < xs.length := by have := hn.out; omega
      have q2 : k < ys.length := by have := hn.out; have := hlh.out; omega
      obtain ⟨g1, -, j1, c1⟩ := i1 k q1
      obtain ⟨g2, -, j2, c2⟩ := i2 k q2
      obtain ⟨o1, d1, d1'⟩ := c1 wr hb
      obtain ⟨o2, d2, d2'⟩ := c2 wr hb
      obtain ⟨x, hx'⟩ : ∃ x, xs[k] = x := ⟨_, rfl⟩
      have hx : Hid (xs[k] = x) := hx'
      clear hx'
      obtain ⟨y, hy'⟩ : ∃ y, ys[k] = y := ⟨_, rfl⟩
      have hy : Hid (ys[k] = y) := hy'
      clear hy'
      obtain ⟨x1, x2⟩ := x
      obtain ⟨y1, y2⟩ := y
      rw [hx.out] at d1 d1'
      rw [hy.out] at d2 d2'
      dsimp only at d1 d1' d2 d2'
      clear c1 c2 i1 i2
      by_cases hxy : (x1, x2) = (y1, y2)
      · have hT2 : Hid (xs.take (k + 1) = ys.take (k + 1)) := take_eq_succ hT.out q1 q2 (by rw [hx.out, hy.out]; exact hxy)
        clear hx hy q1 q2
        cases hxy
        have hne : ∀ W, (binOp .neq 41 (.agg #[.int .i64 x1, .int .i64 x2]) (.agg #[.int .i64 x1, .int .i64 x2])).run Try.prog W = .ok (.bool false) W := fun W => by rw [neq_pair]; simp
        go_wp2_with fail
        refine wp_region_gw (by kernel_rfl) (by kernel_rfl) ?_
        repeat (go_big_quiet_step (fail))
        refine wpQuiet_nil ?_
        intro w1 hw1
        obtain ⟨q, rfl⟩ := hw1
        go_wp2_with fail
        refine ⟨⟨k + 1, by omega, by go_num, hT2, bBel⟩, by (try go_num); simp [intOf]; (try omega)⟩
      · obtain rfl : D = false := by
          rw [← hD2.out]; simp; intro e; apply hxy; rw [← hx.out, ← hy.out]; subst e; rfl
        clear hx hy q1 q2
        have hne : ∀ W, (binOp .neq 41 (.agg #[.int .i64 x1, .int .i64 x2]) (.agg #[.int .i64 y1, .int .i64 y2])).run Try.prog W = .ok (.bool true) W := fun W => by rw [neq_pair]; simp; exact Classical.not_and_iff_not_or_not.1 fun h => hxy (by rw [h.1, h.2])
        clear hxy
        go_wp2_with fail
        refine wp_region_gw (by kernel_rfl) (by kernel_rfl) ?_
        repeat (go_big_quiet_step (fail))
        refine wpQuiet_nil ?_
        intro w1 hw1
        obtain ⟨q, rfl⟩ := hw1
        go_wp2_with fail
        go_ret
        exact ⟨rfl, bBel⟩
    · obtain rfl : D = true := by
        have hlx : k = n := by omega
        rw [← hD2.out]
        have := hT.out
        rw [List.take_of_length_le (by have := hn.out; omega), List.take_of_length_le (by have := hn.out; have := hlh.out; omega)] at this
        simp [this]
      clear i1 i2
      go_wp2_with fail
      go_ret
      exact ⟨rfl, bBel⟩

set_option maxRecDepth 100000 in
set_option maxHeartbeats 4000000 in
theorem maxheight_b (N : Nat) (h1 : N ≤ 1000000) (w : World) : Calls Try.prog 30 #[.int .i64 (N : Int)] w fun e w' => (∃ d : Nat, e = .returned (.int .i64 (2 * (d : Int) + 1)) ∧ Hid (N < 2 ^ d)) ∧ Below w.heap.size w w' := by
  go_enter Try.func30, Try.ntmps30
  go_wp2_with fail
  go_loopw [0, 3] (fun a b wr => ∃ d m : Nat, a = .int .i64 (m : Int) ∧ b = .int .i64 (d : Int) ∧ Hid (m = N / 2 ^ d) ∧ d + m ≤ N ∧ Below w.heap.size w wr) (fun a _ _ => (intOf a).toNat)
  case atStart => exact ⟨0, N, rfl, rfl, (by simp : N = N / 2 ^ 0), by omega, bBel⟩
  case round =>
    obtain ⟨d, m, rfl, rfl, hm, hdm, hb⟩ := hrel
    by_cases h0 : 0 < m
    · have hi : (0 : Int) < (m : Int) := by omega
      obtain ⟨h, hh⟩ : ∃ h, m / 2 = h := ⟨_, rfl⟩
      have e1 : (m : Int).tdiv 2 = (h : Int) := by rw [Int.tdiv_eq_ediv_of_nonneg (by omega)]; omega
      have e2 : (m : Int) / 2 = (h : Int) := by omega
      have e3 : IntKind.i64.wrap (h : Int) = (h : Int) := by unfold IntKind.wrap; simp [IntKind.bits, IntKind.signed]; omega
      have hm2 : Hid (h = N / 2 ^ (d + 1)) := by show _ = _; rw [← hh, hm.out, Nat.pow_succ, Nat.div_div_eq_div_mul]
      have hhm : h + 1 ≤ m := by omega
      clear hh
      clear hm
      go_wp2_with fail
      refine ⟨⟨d + 1, h, by first | rfl | go_num, by go_num, hm2, by omega, bBel⟩, by (try go_num); simp [intOf]; (try omega)⟩
    · obtain rfl : m = 0 := by omega
      have hfin : Hid (N < 2 ^ d) := by
        have := hm.out.symm
        exact (Nat.div_eq_zero_iff_lt (Nat.pos_of_ne_zero (by simp))).1 this
      clear hm
      go_wp2_with fail
      go_ret
      exact ⟨⟨d, by first | rfl | (congr 2; omega), hfin⟩, bBel⟩

end Go.Proofs.Ytdldlcibjjccpaa
