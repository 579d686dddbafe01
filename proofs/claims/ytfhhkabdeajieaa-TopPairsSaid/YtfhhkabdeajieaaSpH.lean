/- Chapter 21, the reference on lists of pairs: less, containsPair, insert, MergePairs, SubtractPairs, EqualPairs. -/
import Derived.Test.YtfhhkabdeajieaaSpF
import Derived.Test.YtfhhkabdeajieaaSpR
import Derived.Deep.DeepCutAuto
set_option linter.unusedVariables false
set_option linter.unusedSimpArgs false
namespace Go.Proofs.Ytfhhkabdeajieaa
open Go.RowKit Fx

/-- 'append(out, xs...)', out nil or the call's own, elements of sz cells. -/
theorem wpList_appE21 {P : Program} {w : World} {ops : Array Oper} {rest : List Oper} {o : Oper} {a : Act} {Q : Exit → Act → World → Prop} (hg : o.guard = none) (s x : Operand) (t : TypeId)
    (ho : o.op = .call { callee := .builtin .append, args := #[s, x], argTypes := #[t, t] })
    (B : Nat) (e : TypeId) (i : TypeInfo) (z : Value) (sz bytes : Nat) (ht : P.underlying t = some (.slice e)) (hi : P.info? e = some i) (hz : i.zero = some z) (hsize : i.size = sz) (hby : i.bytes = bytes) (hzs : z.cells.size = sz) (hsz : 0 < sz)
    (v : Value) (n : Nat) (xs : List Value) (hs : a.eval s = v) (hown : w.ownsRow B e sz v n xs) (X : Option Addr) (m c : Nat) (ys : List Value) (hx : a.eval x = .slice X m c) (hnil : X = none → c = 0) (hmc : m ≤ c) (hl : ys.length = m * sz) (hcs : Cs w X ys) (h1 : ∀ u ∈ ys, u.oneCell' = true)
    (h63 : n + m ≤ maxLen) (hbytes : (n + m) * bytes ≤ 140737488355328) (hB : B ≤ w.heap.size)
    (h : ∀ v' w', w'.ownsRow B e sz v' (n + m) (xs ++ ys) → Below B w w' → wpList P ops Q rest (a.put o.dst v') w') : wpList P ops Q (o :: rest) a w := by
  cases X with
  | none =>
    obtain rfl := hnil rfl
    obtain rfl : m = 0 := by omega
    have hn : ys = [] := List.eq_nil_of_length_eq_zero (by omega)
    subst hn
    refine wpList_plain hg fun K hK' => ?_
    have hrun := run_append_owned_none (P := P) w B t o.type e i sz ht hi v n xs hown
    unfold Oper.wp
    simp [execOp, ho, resolve, invoke, builtin, hs, hx, hrun, Result.andThen]
    exact hK' _ _ (h v w (by simpa using hown) (Below.refl _ _))
  | some ad =>
    refine wpList_append_own w hg s x t ho B e i z sz bytes ht hi hz hsize hby hzs hsz v n xs hs hown ad m c ys hx hl (cs_at hcs) h1 h63 hbytes hB (fun v' w' h2 h3 _ => h v' w' h2 ?_)
    refine ⟨h3.os, h3.tape, h3.output, h3.size, fun k hk => h3.block k (by omega) fun hk' => ?_⟩
    obtain ⟨_, ⟨rfl, _⟩ | ⟨g, cap, cur, rfl, hBg, _⟩⟩ := hown
    · simp [Value.ownBlock] at hk'
    · simp [Value.ownBlock] at hk'; omega
theorem own_castk21 {w : World} {B n n' k : Nat} {e : TypeId} {v : Value} {xs xs' : List Value} (h : w.ownsRow B e k v n xs) (hn : n = n') (hx : xs = xs') : w.ownsRow B e k v n' xs' := by subst hn; subst hx; exact h
theorem own_lit21 {w : World} {B n k : Nat} {e : TypeId} {v : Value} {xs : List Value} (h : w.ownsRow B e k v n xs) : ∃ A cap, v = .slice A n cap := by
  obtain ⟨_, ⟨rfl, rfl⟩ | ⟨g, cap, _, rfl, _⟩⟩ := h
  · exact ⟨none, 0, rfl⟩
  · exact ⟨_, _, rfl⟩

/-- v is a slice of these pairs. -/
structure Vw2 (w : World) (v : Value) (xs : List Pr) : Prop where
  len : ∀ ty W, (Builtin.len_ #[40] ty #[v]).run Try.prog W = .ok (.int .i64 (xs.length : Int)) W
  ix : ∀ k (hk : k < xs.length), ∃ g o : Nat, (∀ W, (Instr.indexAt 40 v (.int .i64 (k : Int))).run Try.prog W = .ok (.pointer (some ⟨g, o, none⟩)) W) ∧ ∀ w', Below w.heap.size w w' → older g w' = true ∧ w'.cell? ⟨g, o, none⟩ = some (.int .i64 xs[k].1) ∧ w'.cell? ⟨g, o + 1, none⟩ = some (.int .i64 xs[k].2)
theorem Vw2.to {w w' : World} {v : Value} {xs : List Pr} (h : Vw2 w v xs) (hb : Below w.heap.size w w') : Vw2 w' v xs :=
  ⟨h.len, fun k hk => by
    obtain ⟨g, o, h1, h2⟩ := h.ix k hk
    exact ⟨g, o, h1, fun w2 hb2 => h2 w2 (Below.trans hb (hb2.mono hb.size))⟩⟩

theorem vw_own {w : World} {B : Nat} {v : Value} {xs : List Pr} (h : w.ownsRow B 44 2 v xs.length (pv xs)) : Vw2 w v xs :=
  ⟨fun ty W => row_len u_pairs h ty W, fun k hk => by
    obtain ⟨g, _, h2, h3⟩ := pairs_ix h hk
    exact ⟨g, k * 2, h2, h3⟩⟩

theorem vw_pts {w : World} {A : Option Addr} {cap : Nat} {xs : List Pr} (h : Pts w A xs) : Vw2 w (.slice A xs.length cap) xs :=
  ⟨fun ty W => by simp [Builtin.len_, run_underlying u_pairs] <;> rfl, fun k hk => by
    obtain ⟨b, off, rfl, hc⟩ := ptsp_open h (by omega)
    obtain ⟨d0, d1⟩ := hc k hk
    have hlt : b < w.heap.size := World.block_lt_of_cell? w ⟨b, off + k * 2, none⟩ d0
    refine ⟨b, off + k * 2, fun W => ?_, fun w' hb => ⟨by have := hb.size; simp [older]; omega, (hb.cell (p := ⟨b, off + k * 2, none⟩) hlt).trans d0, (hb.cell (p := ⟨b, off + k * 2 + 1, none⟩) hlt).trans d1⟩⟩
    simp [Instr.indexAt, run_underlying u_pairs, asIntOf, sz_pair, hk, addN21, go_sem]⟩

set_option maxRecDepth 100000 in
set_option maxHeartbeats 4000000 in
theorem eqp21_b (v1 v2 : Value) (xs ys : List Pr) (w : World) (h1 : Vw2 w v1 xs) (h2 : Vw2 w v2 ys) (D : Bool) (hD : decide (xs = ys) = D) (hx : xs.length ≤ 1000000000) : Calls Try.prog 14 #[v1, v2] w fun e w' => e = .returned (.bool D) ∧ Below w.heap.size w w' := by
  have l1 := fun ty W => h1.len ty W
  have l2 := fun ty W => h2.len ty W
  by_cases hl : xs.length = ys.length
  rotate_left
  · obtain rfl : D = false := by rw [← hD]; simp; intro e; exact hl (by rw [e])
    clear h1 h2 hD
    generalize xs.length = n at *
    generalize ys.length = m at *
    go_enter Try.func14, Try.ntmps14
    go_wp2_with fail
    go_ret
    exact ⟨rfl, bBel⟩
  have i1 := fun k (hk : k < xs.length) => h1.ix k hk
  have i2 := fun k (hk : k < ys.length) => h2.ix k hk
  have hD2 : Hid (decide (xs = ys) = D) := hD
  have hlh : Hid (xs.length = ys.length) := hl
  rw [← hl] at l2
  clear h1 h2 hD hl
  obtain ⟨n, hn⟩ : ∃ n, Hid (xs.length = n) := ⟨_, rfl⟩
  rw [hn.out] at l1 l2 hx
  go_enter Try.func14, Try.ntmps14
  go_wp2_with fail
  go_loopw [5] (fun i wr => ∃ k : Nat, k ≤ n ∧ i = .int .i64 (k : Int) ∧ Hid (xs.take k = ys.take k) ∧ Below w.heap.size w wr) (fun i _ => n - (intOf i).toNat)
  case atStart => exact ⟨0, by omega, rfl, rfl, bBel⟩
  case round =>
    obtain ⟨k, hk, rfl, hT, hb⟩ := hrel
    have hszR := hb.size
    by_cases hkn : k < n
    · have q1 : k < xs.length := by have := hn.out; omega
      have q2 : k < ys.length := by have := hn.out; have := hlh.out; omega
      obtain ⟨g1, f1, j1, c1⟩ := i1 k q1
      obtain ⟨g2, f2, j2, c2⟩ := i2 k q2
      obtain ⟨o1, d1, d1'⟩ := c1 wr hb
      obtain ⟨o2, d2, d2'⟩ := c2 wr hb
      obtain ⟨x, hx'⟩ : ∃ x, xs[k] = x := ⟨_, rfl⟩
      have hx : Hid (xs[k] = x) := hx'
      clear hx'
      obtain ⟨y, hy'⟩ : ∃ y, ys[k] = y := ⟨_, rfl⟩
      have hy : Hid (ys[k] = y) := hy'
      clear hy'
      obtain ⟨x1, x2⟩ := x
      obtain ⟨y1, y2⟩ := y
      rw [hx.out] at d1 d1'
      rw [hy.out] at d2 d2'
      dsimp only at d1 d1' d2 d2'
      clear c1 c2 i1 i2
      by_cases hxy : (x1, x2) = (y1, y2)
      · have hT2 : Hid (xs.take (k + 1) = ys.take (k + 1)) := take_eq_succ hT.out q1 q2 (by rw [hx.out, hy.out]; exact hxy)
        clear hx hy q1 q2
        cases hxy
        have hne : ∀ W, (binOp .neq 44 (.agg #[.int .i64 x1, .int .i64 x2]) (.agg #[.int .i64 x1, .int .i64 x2])).run Try.prog W = .ok (.bool false) W := fun W => by rw [neq_pair]; simp
        go_wp2_with fail
        refine wp_region_gw (by kernel_rfl) (by kernel_rfl) ?_
        repeat (go_big_quiet_step (fail))
        refine wpQuiet_nil ?_
        intro w1 hw1
        obtain ⟨q, rfl⟩ := hw1
        go_wp2_with fail
        refine ⟨⟨k + 1, by omega, by go_num, hT2, bBel⟩, by (try go_num); simp [intOf]; (try omega)⟩
      · obtain rfl : D = false := by
          rw [← hD2.out]; simp; intro e; apply hxy; rw [← hx.out, ← hy.out]; subst e; rfl
        clear hx hy q1 q2
        have hne : ∀ W, (binOp .neq 44 (.agg #[.int .i64 x1, .int .i64 x2]) (.agg #[.int .i64 y1, .int .i64 y2])).run Try.prog W = .ok (.bool true) W := fun W => by rw [neq_pair]; simp; exact Classical.not_and_iff_not_or_not.1 fun h => hxy (by rw [h.1, h.2])
        clear hxy
        go_wp2_with fail
        refine wp_region_gw (by kernel_rfl) (by kernel_rfl) ?_
        repeat (go_big_quiet_step (fail))
        refine wpQuiet_nil ?_
        intro w1 hw1
        obtain ⟨q, rfl⟩ := hw1
        go_wp2_with fail
        go_ret
        exact ⟨rfl, bBel⟩
    · obtain rfl : D = true := by
        have hlx : k = n := by omega
        rw [← hD2.out]
        have := hT.out
        rw [List.take_of_length_le (by have := hn.out; omega), List.take_of_length_le (by have := hn.out; have := hlh.out; omega)] at this
        simp [this]
      clear i1 i2
      go_wp2_with fail
      go_ret
      exact ⟨rfl, bBel⟩

theorem ltP_case (ax ay bx b_y : Int) : (ax < bx ∧ decide (ltP (ax, ay) (bx, b_y)) = true) ∨ (¬ ax < bx ∧ (ax == bx) = false ∧ decide (ltP (ax, ay) (bx, b_y)) = false) ∨ (¬ ax < bx ∧ (ax == bx) = true ∧ ay < b_y ∧ decide (ltP (ax, ay) (bx, b_y)) = true) ∨ (¬ ax < bx ∧ (ax == bx) = true ∧ ¬ ay < b_y ∧ decide (ltP (ax, ay) (bx, b_y)) = false) := by
  have e : ltP (ax, ay) (bx, b_y) ↔ (ax < bx ∨ ax = bx ∧ ay < b_y) := Iff.rfl
  simp only [e, beq_iff_eq, beq_eq_false_iff_ne, decide_eq_true_eq, decide_eq_false_iff_not]
  omega

set_option maxHeartbeats 4000000 in
theorem rless_b (ax ay bx b_y : Int) (w : World) : Calls Try.prog 56 #[.agg #[.int .i64 ax, .int .i64 ay], .agg #[.int .i64 bx, .int .i64 b_y]] w fun e w' => e = .returned (.bool (decide (ltP (ax, ay) (bx, b_y)))) ∧ Below w.heap.size w w' := by
  have hc := ltP_case ax ay bx b_y
  generalize decide (ltP (ax, ay) (bx, b_y)) = K at *
  rcases hc with ⟨h1, rfl⟩ | ⟨h1, h2, rfl⟩ | ⟨h1, h2, h3, rfl⟩ | ⟨h1, h2, h3, rfl⟩
  all_goals
    go_enter Try.func56, Try.ntmps56
    go_wp2_with fail
    go_ret
    exact ⟨rfl, bBel⟩

set_option maxRecDepth 100000 in
set_option maxHeartbeats 4000000 in
theorem rcont_b (v : Value) (xs : List Pr) (hx : xs.length ≤ 1000000) (x y : Int) (K : Bool) (hK : xs.contains (x, y) = K) (w : World) (h : Vw2 w v xs) : Calls Try.prog 37 #[v, .agg #[.int .i64 x, .int .i64 y]] w fun e w' => e = .returned (.bool K) ∧ Below w.heap.size w w' := by
  have hlen := h.len
  have hK' : Hid (xs.contains (x, y) = K) := hK
  clear hK
  go_enter Try.func37, Try.ntmps37
  go_upto_region 1 with fail
  refine wp_named ?_
  intro W hW
  have kP : blk W w.heap.size #[.int .i64 x, .int .i64 y] 44 := by rw [hW]; exact bBkn
  have hbW : Below w.heap.size w W := by rw [hW]; exact bBel
  clear hW
  go_wp2_with fail
  go_loopw [5] (fun i wr => ∃ k : Nat, k ≤ xs.length ∧ i = .int .i64 (k : Int) ∧ Hid (∀ j (h : j < xs.length), j < k → xs[j] ≠ (x, y)) ∧ Below W.heap.size W wr) (fun i _ => xs.length - (intOf i).toNat)
  case atStart => exact ⟨0, by omega, rfl, fun j _ h => by omega, Below.refl _ _⟩
  case round =>
    obtain ⟨k, hk, rfl, hno, hb⟩ := hrel
    have hszR := hb.size
    have kR := blk_below hb kP
    have hbw := Below.trans hbW (hb.mono hbW.size)
    have hszw := hbw.size
    have okR := blk_older kR
    have ckR_0 : _ = some _ := blk_cell kR 0
    have ckR_1 : _ = some _ := blk_cell kR 1
    have fkR_0 := blk_free kR 0
    have fkR_1 := blk_free kR 1
    by_cases hlt : k < xs.length
    · obtain ⟨g, o, hix, hc⟩ := h.ix k hlt
      obtain ⟨og, d0, d1⟩ := hc wr hbw
      have hno2 : Hid (xs[k] ≠ (x, y) → ∀ j (h : j < xs.length), j < k + 1 → xs[j] ≠ (x, y)) := fun h2 j hj hjk => by
        rcases Nat.lt_or_eq_of_le (Nat.le_of_lt_succ hjk) with h3 | rfl
        · exact hno.out j hj h3
        · exact h2
      have hyes : Hid (xs[k] = (x, y) → K = true) := fun h2 => by rw [← hK'.out]; simp; rw [← h2]; exact List.getElem_mem hlt
      clear hc hno
      generalize xs[k] = e at *
      obtain ⟨a, b⟩ := e
      dsimp only at d0 d1
      by_cases c : a = x ∧ b = y
      · obtain rfl := hyes.out (by rw [c.1, c.2])
        have hq : ∀ W, (binOp .eql 44 (.agg #[.int .i64 a, .int .i64 b]) (.agg #[.int .i64 x, .int .i64 y])).run Try.prog W = .ok (.bool true) W := fun W => by rw [eql_pair]; simp; exact c
        clear c hno2 hyes
        go_wp2_with fail
        refine wp_region_gw (by kernel_rfl) (by kernel_rfl) ?_
        repeat (go_big_quiet_step (fail))
        refine wpQuiet_nil ?_
        intro w1 hw1
        obtain ⟨q, rfl⟩ := hw1
        go_wp2_with fail
        go_ret
        exact ⟨rfl, bBel⟩
      · have hn3 := hno2.out (fun e => c ⟨congrArg Prod.fst e, congrArg Prod.snd e⟩)
        have hn4 : Hid (∀ j (h : j < xs.length), j < k + 1 → xs[j] ≠ (x, y)) := hn3
        have hq : ∀ W, (binOp .eql 44 (.agg #[.int .i64 a, .int .i64 b]) (.agg #[.int .i64 x, .int .i64 y])).run Try.prog W = .ok (.bool false) W := fun W => by rw [eql_pair]; simp; exact fun h1 h2 => c ⟨h1, h2⟩
        clear c hno2 hyes hn3
        go_wp2_with fail
        refine wp_region_gw (by kernel_rfl) (by kernel_rfl) ?_
        repeat (go_big_quiet_step (fail))
        refine wpQuiet_nil ?_
        intro w1 hw1
        obtain ⟨q, rfl⟩ := hw1
        go_wp2_with fail
        exact ⟨⟨k + 1, by omega, by go_num, hn4, bBel⟩, by (try go_num); simp [intOf]; (try omega)⟩
    · obtain rfl : k = xs.length := by omega
      obtain rfl : K = false := by
        rw [← hK'.out]; simp
        intro hm
        obtain ⟨j, hj, e⟩ := List.getElem_of_mem hm
        exact hno.out j hj hj e
      go_wp2_with fail
      go_ret
      exact ⟨rfl, bBel⟩

theorem own_nil21 {w : World} {g B k : Nat} {e : TypeId} (h : blk w g #[] e) (hB : B ≤ g) : w.ownsRow B e k (.slice (some ⟨g, 0, none⟩) 0 0) 0 [] :=
  ⟨by simp, .inr ⟨g, 0, #[], rfl, hB, h, Nat.le_refl _, by decide, by simp, by simp⟩⟩
theorem pv_take21 : ∀ (ps : List Pr) (k : Nat), (pv ps).take (k * 2) = pv (ps.take k)
  | [], k => by simp [pv]
  | p :: ps, 0 => by simp [pv]
  | p :: ps, k + 1 => by
    rw [show (k + 1) * 2 = k * 2 + 2 by omega]
    simp [pv, pv_take21 ps k]
theorem pv_drop21 : ∀ (ps : List Pr) (k : Nat), (pv ps).drop (k * 2) = pv (ps.drop k)
  | [], k => by simp [pv]
  | p :: ps, 0 => by simp
  | p :: ps, k + 1 => by
    rw [show (k + 1) * 2 = k * 2 + 2 by omega]
    simp [pv, pv_drop21 ps k]
theorem pv_one21 (ps : List Pr) : ∀ u ∈ pv ps, u.oneCell' = true := fun u hu => by
  rw [pv_flat] at hu
  obtain ⟨p, _, hu⟩ := List.mem_flatMap.1 hu
  simp [prc] at hu; rcases hu with rfl | rfl <;> rfl

set_option maxRecDepth 100000 in
set_option maxHeartbeats 8000000 in
theorem rins21_b (B : Nat) (v : Value) (L : List Pr) (px py : Int) (hl : L.length ≤ 100000) (w : World) (hB : B ≤ w.heap.size) (hown : w.ownsRow B 44 2 v L.length (pv L)) : Calls Try.prog 36 #[v, .agg #[.int .i64 px, .int .i64 py]] w fun e w' => (∃ v', e = .returned v' ∧ w'.ownsRow B 44 2 v' (insP L (px, py)).length (pv (insP L (px, py)))) ∧ Below w.heap.size w w' := by
  obtain ⟨i0, hi, hz0, hz1, hz2⟩ := info_parts info_pair
  have h := vw_own hown
  have hlen := h.len
  obtain ⟨R, hR⟩ : ∃ R, Hid (insP L (px, py) = R) := ⟨_, rfl⟩
  rw [hR.out]
  go_enter Try.func36, Try.ntmps36
  go_upto_region 1 with fail
  refine wp_named ?_
  intro W hW
  have kP : blk W w.heap.size #[.int .i64 px, .int .i64 py] 44 := by rw [hW]; exact bBkn
  have hbW : Below w.heap.size w W := by rw [hW]; exact bBel
  clear hW
  have hszW := hbW.size
  go_wp2_with fail
  go_loopw [5] (fun i wr => ∃ k : Nat, k ≤ L.length ∧ i = .int .i64 (k : Int) ∧ Hid (∀ j (h : j < L.length), j < k → ltP L[j] (px, py)) ∧ Below W.heap.size W wr) (fun i _ => L.length - (intOf i).toNat)
  case atStart => exact ⟨0, by omega, rfl, fun j _ h => by omega, Below.refl _ _⟩
  case round =>
    obtain ⟨k, hk, rfl, hno, hb⟩ := hrel
    have hszR := hb.size
    have kR := blk_below hb kP
    have hbw := Below.trans hbW (hb.mono hbW.size)
    have hszw := hbw.size
    have okR := blk_older kR
    have ckR_0 : _ = some _ := blk_cell kR 0
    have ckR_1 : _ = some _ := blk_cell kR 1
    have fkR_0 := blk_free kR 0
    have fkR_1 := blk_free kR 1
    by_cases hlt : k < L.length
    · obtain ⟨g, o, hix, hc⟩ := h.ix k hlt
      obtain ⟨og, d0, d1⟩ := hc wr hbw
      have hno2 : Hid (ltP L[k] (px, py) → ∀ j (h : j < L.length), j < k + 1 → ltP L[j] (px, py)) := fun h2 j hj hjk => by
        rcases Nat.lt_or_eq_of_le (Nat.le_of_lt_succ hjk) with h3 | rfl
        · exact hno.out j hj h3
        · exact h2
      have hstop : Hid (¬ ltP L[k] (px, py) → R = if L[k] = (px, py) then L else L.take k ++ (px, py) :: L.drop k) := fun h2 => by
        rw [← hR.out, insP_at hk hno.out (fun _ => h2), List.getElem?_eq_getElem hlt]
        simp
      clear hc hno
      generalize L[k] = e at *
      obtain ⟨a, b⟩ := e
      dsimp only at d0 d1
      cases hq : decide (ltP (a, b) (px, py)) with
      | true =>
        have hn3 := hno2.out (of_decide_eq_true hq)
        have hn4 : Hid (∀ j (h : j < L.length), j < k + 1 → ltP L[j] (px, py)) := hn3
        clear hn3 hno2 hstop
        go_wp2_with fail
        refine wp_region_gw (by kernel_rfl) (by kernel_rfl) ?_
        repeat (go_big_quiet_step ((first | (go_at_call 56; with_reducible_and_instances exact gw_call (boolIs (rless_b a b px py _) hq)))))
        refine wpQuiet_nil ?_
        intro w1 hw1
        obtain ⟨q, rfl⟩ := hw1
        go_wp2_with fail
        exact ⟨⟨k + 1, by omega, by go_num, hn4, bBel⟩, by (try go_num); simp [intOf]; (try omega)⟩
      | false =>
        have hs3 := hstop.out (of_decide_eq_false hq)
        by_cases c : a = px ∧ b = py
        · have hs4 : Hid (R = L) := by show _ = _; rw [hs3, if_pos (by rw [c.1, c.2])]
          have he : ∀ W, (binOp .eql 44 (.agg #[.int .i64 a, .int .i64 b]) (.agg #[.int .i64 px, .int .i64 py])).run Try.prog W = .ok (.bool true) W := fun W => by rw [eql_pair]; simp; exact c
          clear hs3 hno2 hstop c
          go_wp2_with fail
          refine wp_region_gw (by kernel_rfl) (by kernel_rfl) ?_
          repeat (go_big_quiet_step ((first | (go_at_call 56; with_reducible_and_instances exact gw_call (boolIs (rless_b a b px py _) hq)))))
          refine wpQuiet_nil ?_
          intro w1 hw1
          obtain ⟨q, rfl⟩ := hw1
          go_wp2_with fail
          refine wp_region_gw (by kernel_rfl) (by kernel_rfl) ?_
          repeat (go_big_quiet_step (fail))
          refine wpQuiet_nil ?_
          intro w1 hw1
          obtain ⟨q, rfl⟩ := hw1
          go_wp2_with fail
          go_ret
          rw [hs4.out]
          exact ⟨⟨_, rfl, owns_below hown bBel⟩, bBel⟩
        · have hs4 : Hid (R = L.take k ++ (px, py) :: L.drop k) := by show _ = _; rw [hs3, if_neg (fun e => c ⟨congrArg Prod.fst e, congrArg Prod.snd e⟩)]
          have he : ∀ W, (binOp .eql 44 (.agg #[.int .i64 a, .int .i64 b]) (.agg #[.int .i64 px, .int .i64 py])).run Try.prog W = .ok (.bool false) W := fun W => by rw [eql_pair]; simp; exact fun h1 h2 => c ⟨h1, h2⟩
          clear hs3 hno2 hstop c
          go_wp2_with fail
          refine wp_region_gw (by kernel_rfl) (by kernel_rfl) ?_
          repeat (go_big_quiet_step ((first | (go_at_call 56; with_reducible_and_instances exact gw_call (boolIs (rless_b a b px py _) hq)))))
          refine wpQuiet_nil ?_
          intro w1 hw1
          obtain ⟨q, rfl⟩ := hw1
          go_wp2_with fail
          refine wp_region_gw (by kernel_rfl) (by kernel_rfl) ?_
          repeat (go_big_quiet_step (fail))
          refine wpQuiet_nil ?_
          intro w1 hw1
          obtain ⟨q, rfl⟩ := hw1
          go_upto_region 6 with fail
          refine wp_named ?_
          intro Y hY
          have hbY : Below W.heap.size W Y := by rw [hY]; exact bBel
          clear hY
          have kY := blk_below hbY kP
          have hownY := owns_below hown (Below.trans hbW (hbY.mono hbW.size))
          obtain ⟨A1, s1, r1, -, z1, q1, p1⟩ := own_hi21 u_pairs hi hz1 hown k hk k rfl
          obtain ⟨A2, s2, r2, -, z2, q2, p2⟩ := own_lo21 u_pairs hi hz1 hown k hk k rfl
          rw [pv_take21] at p1
          rw [pv_drop21] at p2
          have e1 : (pv (L.take k)).length = k * 2 := by rw [pv_len20, List.length_take]; omega
          have e2 : (pv (L.drop k)).length = (L.length - k) * 2 := by rw [pv_len20, List.length_drop]
          have g1 := pv_one21 (L.take k)
          have g2 := pv_one21 (L.drop k)
          have f1 : Hid ([] ++ pv (L.take k) ++ [.int .i64 px, .int .i64 py] ++ pv (L.drop k) = pv R) := by
            show _ = _
            rw [hs4.out, List.nil_append, pv_append20, List.append_assoc]; rfl
          have hRl : Hid (R.length = L.length + 1) := by show _ = _; rw [hs4.out]; simp <;> omega
          generalize pv (L.take k) = Y1 at *
          generalize pv (L.drop k) = Y2 at *
          have hszY := hbY.size
          have hbwY := Below.trans hbW (hbY.mono hbW.size)
          have hszwY := hbwY.size
          clear hownY
          have okY := blk_older kY
          have ckY_0 : _ = some _ := blk_cell kY 0
          have ckY_1 : _ = some _ := blk_cell kY 1
          have fkY_0 := blk_free kY 0
          have fkY_1 := blk_free kY 1
          go_upto_region 7 with (at_builtin; refine wpList_appE21 rfl _ _ 40 rfl W.heap.size 44 i0 (.agg #[.int .i64 0, .int .i64 0]) 2 16 (by kernel_rfl) hi hz0 hz1 hz2 rfl (by decide) _ 0 [] rfl (own_nil21 bBkn (by omega)) A1 k s1 Y1 rfl z1 q1 e1 (Cs.to p1 bBel) g1 (by unfold maxLen; omega) (by omega) (by first | (simp; omega) | omega) ?_; intro v1 w1 hown1 hb1)
          have hszX := hb1.size
          have hbY1 : Below W.heap.size Y w1 := Below.trans ((Below.refl _ Y).alloc hszY _) hb1
          have hbw1 : Below w.heap.size w w1 := Below.trans hbwY (hbY1.mono hbW.size)
          have kY1 : blk w1 w.heap.size #[.int .i64 px, .int .i64 py] 44 := (hbY1.block _ (by have := blk_lt kP; omega)).trans kY
          clear hb1
          have hszw1 := hbw1.size
          have hszY1 := hbY1.size
          have okY1 := blk_older kY1
          have ckY1_0 : _ = some _ := blk_cell kY1 0
          have ckY1_1 : _ = some _ := blk_cell kY1 1
          have fkY1_0 := blk_free kY1 0
          have fkY1_1 := blk_free kY1 1
          go_upto_region 8 with (at_builtin; refine wpList_app20 rfl _ _ 40 rfl W.heap.size 44 i0 (.agg #[.int .i64 0, .int .i64 0]) 16 (by kernel_rfl) hi hz0 hz1 hz2 rfl _ _ _ rfl (owns_below hown1 bBel) _ (.int .i64 px) (.int .i64 py) 44 rfl bBkn rfl rfl (by unfold maxLen; omega) (by omega) (by first | (simp; omega) | omega) ?_; intro v2 w2 hown2 hb2 _ _)
          have hbY2 : Below W.heap.size w1 w2 := Below.trans ((Below.refl _ w1).alloc (by omega) _) hb2
          have hbw2 : Below w.heap.size w w2 := Below.trans hbw1 (hbY2.mono hbW.size)
          clear hb2
          have hszw2 := hbw2.size
          have hszY2 := hbY2.size
          go_wp2_with (at_builtin; refine wpList_appE21 rfl _ _ 40 rfl W.heap.size 44 i0 (.agg #[.int .i64 0, .int .i64 0]) 2 16 (by kernel_rfl) hi hz0 hz1 hz2 rfl (by decide) _ _ _ rfl hown2 A2 (L.length - k) s2 Y2 rfl z2 q2 e2 (Cs.to p2 bBel) g2 (by unfold maxLen; omega) (by omega) (by first | (simp; omega) | omega) ?_; intro v3 w3 hown3 hb3)
          go_ret
          exact ⟨⟨_, rfl, owns_base (own_castk21 hown3 (by have := hRl.out; omega) f1.out) (by omega)⟩, Below.trans hbw2 (hb3.mono hbW.size)⟩
    · obtain rfl : k = L.length := by omega
      have hs4 : Hid (R = L.take L.length ++ (px, py) :: L.drop L.length) := by
        show _ = _
        rw [← hR.out, insP_at (Nat.le_refl _) hno.out (fun h => by omega)]
        simp
      clear hno
      go_wp2_with fail
      refine wp_region_gw (by kernel_rfl) (by kernel_rfl) ?_
      repeat (go_big_quiet_step ((first | (go_at_call 56; with_reducible_and_instances exact gw_call (rless_b px py px py _)))))
      refine wpQuiet_nil ?_
      intro w1 hw1
      obtain ⟨q, rfl⟩ := hw1
      go_wp2_with fail
      refine wp_region_gw (by kernel_rfl) (by kernel_rfl) ?_
      repeat (go_big_quiet_step (fail))
      refine wpQuiet_nil ?_
      intro w1 hw1
      obtain ⟨q, rfl⟩ := hw1
      go_upto_region 6 with fail
      refine wp_named ?_
      intro Y hY
      have hbY : Below W.heap.size W Y := by rw [hY]; exact bBel
      clear hY
      have kY := blk_below hbY kP
      have hownY := owns_below hown (Below.trans hbW (hbY.mono hbW.size))
      obtain ⟨A1, s1, r1, -, z1, q1, p1⟩ := own_hi21 u_pairs hi hz1 hown L.length hk L.length rfl
      obtain ⟨A2, s2, r2, -, z2, q2, p2⟩ := own_lo21 u_pairs hi hz1 hown L.length hk L.length rfl
      rw [pv_take21] at p1
      rw [pv_drop21] at p2
      have e1 : (pv (L.take L.length)).length = L.length * 2 := by rw [pv_len20, List.length_take]; omega
      have e2 : (pv (L.drop L.length)).length = 0 * 2 := by rw [pv_len20, List.length_drop, Nat.sub_self]
      rw [Nat.sub_self] at r2 q2
      have g1 := pv_one21 (L.take L.length)
      have g2 := pv_one21 (L.drop L.length)
      have f1 : Hid ([] ++ pv (L.take L.length) ++ [.int .i64 px, .int .i64 py] ++ pv (L.drop L.length) = pv R) := by
        show _ = _
        rw [hs4.out, List.nil_append, pv_append20, List.append_assoc]; rfl
      have hRl : Hid (R.length = L.length + 1) := by show _ = _; rw [hs4.out]; simp <;> omega
      generalize pv (L.take L.length) = Y1 at *
      generalize pv (L.drop L.length) = Y2 at *
      have hszY := hbY.size
      have hbwY := Below.trans hbW (hbY.mono hbW.size)
      have hszwY := hbwY.size
      clear hownY
      have okY := blk_older kY
      have ckY_0 : _ = some _ := blk_cell kY 0
      have ckY_1 : _ = some _ := blk_cell kY 1
      have fkY_0 := blk_free kY 0
      have fkY_1 := blk_free kY 1
      go_upto_region 7 with (at_builtin; refine wpList_appE21 rfl _ _ 40 rfl W.heap.size 44 i0 (.agg #[.int .i64 0, .int .i64 0]) 2 16 (by kernel_rfl) hi hz0 hz1 hz2 rfl (by decide) _ 0 [] rfl (own_nil21 bBkn (by omega)) A1 L.length s1 Y1 rfl z1 q1 e1 (Cs.to p1 bBel) g1 (by unfold maxLen; omega) (by omega) (by first | (simp; omega) | omega) ?_; intro v1 w1 hown1 hb1)
      have hszX := hb1.size
      have hbY1 : Below W.heap.size Y w1 := Below.trans ((Below.refl _ Y).alloc hszY _) hb1
      have hbw1 : Below w.heap.size w w1 := Below.trans hbwY (hbY1.mono hbW.size)
      have kY1 : blk w1 w.heap.size #[.int .i64 px, .int .i64 py] 44 := (hbY1.block _ (by have := blk_lt kP; omega)).trans kY
      clear hb1
      have hszw1 := hbw1.size
      have hszY1 := hbY1.size
      have okY1 := blk_older kY1
      have ckY1_0 : _ = some _ := blk_cell kY1 0
      have ckY1_1 : _ = some _ := blk_cell kY1 1
      have fkY1_0 := blk_free kY1 0
      have fkY1_1 := blk_free kY1 1
      go_upto_region 8 with (at_builtin; refine wpList_app20 rfl _ _ 40 rfl W.heap.size 44 i0 (.agg #[.int .i64 0, .int .i64 0]) 16 (by kernel_rfl) hi hz0 hz1 hz2 rfl _ _ _ rfl (owns_below hown1 bBel) _ (.int .i64 px) (.int .i64 py) 44 rfl bBkn rfl rfl (by unfold maxLen; omega) (by omega) (by first | (simp; omega) | omega) ?_; intro v2 w2 hown2 hb2 _ _)
      have hbY2 : Below W.heap.size w1 w2 := Below.trans ((Below.refl _ w1).alloc (by omega) _) hb2
      have hbw2 : Below w.heap.size w w2 := Below.trans hbw1 (hbY2.mono hbW.size)
      clear hb2
      have hszw2 := hbw2.size
      have hszY2 := hbY2.size
      go_wp2_with (at_builtin; refine wpList_appE21 rfl _ _ 40 rfl W.heap.size 44 i0 (.agg #[.int .i64 0, .int .i64 0]) 2 16 (by kernel_rfl) hi hz0 hz1 hz2 rfl (by decide) _ _ _ rfl hown2 A2 0 s2 Y2 rfl z2 q2 e2 (Cs.to p2 bBel) g2 (by unfold maxLen; omega) (by omega) (by first | (simp; omega) | omega) ?_; intro v3 w3 hown3 hb3)
      go_ret
      exact ⟨⟨_, rfl, owns_base (own_castk21 hown3 (by have := hRl.out; omega) f1.out) (by omega)⟩, Below.trans hbw2 (hb3.mono hbW.size)⟩

set_option maxRecDepth 100000 in
set_option maxHeartbeats 4000000 in
theorem rmrg_b (v1 v2 : Value) (a b : List Pr) (h1 : a.length ≤ 1000) (h2 : b.length ≤ 1000) (w : World) (p1 : Vw2 w v1 a) (p2 : Vw2 w v2 b) : Calls Try.prog 16 #[v1, v2] w fun e w' => (∃ v, e = .returned v ∧ w'.ownsRow w.heap.size 44 2 v (mrg (a ++ b)).length (pv (mrg (a ++ b)))) ∧ Below w.heap.size w w' := by
  have l1 := p1.len
  have l2 := p2.len
  obtain ⟨R, hR⟩ : ∃ R, Hid (mrg (a ++ b) = R) := ⟨_, rfl⟩
  rw [hR.out]
  go_enter Try.func16, Try.ntmps16
  go_wp2_with fail
  go_loopw [5, 6] (fun c i wr => ∃ k : Nat, k ≤ a.length ∧ i = .int .i64 (k : Int) ∧ wr.ownsRow w.heap.size 44 2 c (mrg (a.take k)).length (pv (mrg (a.take k))) ∧ Below w.heap.size w wr) (fun _ i _ => a.length - (intOf i).toNat)
  case atStart => exact ⟨0, by omega, rfl, World.ownsRow_nil _ _ _ _, Below.refl _ _⟩
  case round =>
    obtain ⟨k, hk, rfl, hown, hb⟩ := hrel
    have hszR := hb.size
    by_cases hlt : k < a.length
    · obtain ⟨g, o, hix, hc⟩ := p1.ix k hlt
      obtain ⟨og, d0, d1⟩ := hc wr hb
      have hst : Hid (mrg (a.take (k + 1)) = insP (mrg (a.take k)) a[k]) := mrg_take hlt
      have hml := mrg_take_len a k
      clear hc
      generalize a[k] = e at *
      obtain ⟨x, y⟩ := e
      dsimp only at d0 d1
      go_wp2_with (go_at_call 36; refine Calls.mono (rins21_b w.heap.size _ (mrg (a.take k)) x y (by omega) _ hszR hown) ?_; rw [← hst.out]; rintro e w1 ⟨⟨v', rfl, hown1⟩, hb1⟩)
      exact ⟨⟨k + 1, by omega, by go_num, hown1, Below.trans hb (hb1.mono hszR)⟩, by (try go_num); simp [intOf]; (try omega)⟩
    · obtain rfl : k = a.length := by omega
      rw [List.take_length] at hown
      have hown2 : wr.ownsRow w.heap.size 44 2 u5 (mrg (a ++ b.take 0)).length (pv (mrg (a ++ b.take 0))) := by simpa using hown
      clear hown
      go_wp2_with fail
      go_loopw [5, 7] (fun c i wx => ∃ k : Nat, k ≤ b.length ∧ i = .int .i64 (k : Int) ∧ wx.ownsRow w.heap.size 44 2 c (mrg (a ++ b.take k)).length (pv (mrg (a ++ b.take k))) ∧ Below w.heap.size w wx) (fun _ i _ => b.length - (intOf i).toNat)
      case atStart => exact ⟨0, by omega, rfl, hown2, hb⟩
      case round =>
        obtain ⟨k, hk, rfl, hown, hbx⟩ := hrel
        have hszX := hbx.size
        by_cases hlt : k < b.length
        · obtain ⟨g, o, hix, hc⟩ := p2.ix k hlt
          obtain ⟨og, d0, d1⟩ := hc _ hbx
          have hst : Hid (mrg (a ++ b.take (k + 1)) = insP (mrg (a ++ b.take k)) b[k]) := by
            show _ = _
            rw [← List.take_append_getElem hlt, ← List.append_assoc, mrg_snoc]
          have hml : (mrg (a ++ b.take k)).length ≤ 2000 := Nat.le_trans (mrg_len _) (by rw [List.length_append, List.length_take]; omega)
          clear hc
          generalize b[k] = e at *
          obtain ⟨x, y⟩ := e
          dsimp only at d0 d1
          go_wp2_with (go_at_call 36; refine Calls.mono (rins21_b w.heap.size _ (mrg (a ++ b.take k)) x y (by omega) _ hszX hown) ?_; rw [← hst.out]; rintro e w1 ⟨⟨v', rfl, hown1⟩, hb1⟩)
          exact ⟨⟨k + 1, by omega, by go_num, hown1, Below.trans hbx (hb1.mono hszX)⟩, by (try go_num); simp [intOf]; (try omega)⟩
        · obtain rfl : k = b.length := by omega
          rw [List.take_length, hR.out] at hown
          have hownS := own_hid hown
          clear hown
          go_wp2_with fail
          go_ret
          exact ⟨⟨_, rfl, hownS.out⟩, hbx⟩

set_option maxRecDepth 100000 in
set_option maxHeartbeats 4000000 in
theorem rsbt_b (v1 v2 : Value) (a b : List Pr) (h1 : a.length ≤ 1000) (h2 : b.length ≤ 1000) (w : World) (p1 : Vw2 w v1 a) (p2 : Vw2 w v2 b) : Calls Try.prog 18 #[v1, v2] w fun e w' => (∃ v, e = .returned v ∧ w'.ownsRow w.heap.size 44 2 v (mrg (sbt a b)).length (pv (mrg (sbt a b)))) ∧ Below w.heap.size w w' := by
  have l1 := p1.len
  obtain ⟨R, hR⟩ : ∃ R, Hid (mrg (sbt a b) = R) := ⟨_, rfl⟩
  rw [hR.out]
  go_enter Try.func18, Try.ntmps18
  go_wp2_with fail
  go_loopw [5, 6] (fun c i wr => ∃ k : Nat, k ≤ a.length ∧ i = .int .i64 (k : Int) ∧ wr.ownsRow w.heap.size 44 2 c (mrg (sbt (a.take k) b)).length (pv (mrg (sbt (a.take k) b))) ∧ Below w.heap.size w wr) (fun _ i _ => a.length - (intOf i).toNat)
  case atStart => exact ⟨0, by omega, rfl, World.ownsRow_nil _ _ _ _, Below.refl _ _⟩
  case round =>
    obtain ⟨k, hk, rfl, hown, hb⟩ := hrel
    have hszR := hb.size
    by_cases hlt : k < a.length
    · obtain ⟨g, o, hix, hc⟩ := p1.ix k hlt
      obtain ⟨og, d0, d1⟩ := hc wr hb
      have hy : Hid (a[k] ∉ b → mrg (sbt (a.take (k + 1)) b) = insP (mrg (sbt (a.take k) b)) a[k]) := fun h => by rw [sbt_take_yes hlt h, mrg_snoc]
      have hn : Hid (a[k] ∈ b → mrg (sbt (a.take (k + 1)) b) = mrg (sbt (a.take k) b)) := fun h => by rw [sbt_take_no hlt h]
      have hml : (mrg (sbt (a.take k) b)).length ≤ 1000 := Nat.le_trans (mrg_len _) (Nat.le_trans (sbt_take_len a b k) h1)
      clear hc
      generalize a[k] = e at *
      obtain ⟨x, y⟩ := e
      dsimp only at d0 d1
      cases hh : b.contains (x, y) with
      | true =>
        have h9 := hn.out (by simpa using hh)
        have h8 : Hid (mrg (sbt (a.take (k + 1)) b) = mrg (sbt (a.take k) b)) := h9
        clear h9 hy hn
        go_wp2_with (go_at_call 37; refine Calls.mono (gw_at (rcont_b _ b (by omega) x y true hh _ (p2.to bBel))) ?_; rintro e w1 ⟨rfl, q, rfl⟩)
        refine ⟨⟨k + 1, by omega, by go_num, ?_, bBel⟩, by (try go_num); simp [intOf]; (try omega)⟩
        rw [h8.out]; exact owns_below hown bBel
      | false =>
        have h9 := hy.out (by simpa using hh)
        have h8 : Hid (mrg (sbt (a.take (k + 1)) b) = insP (mrg (sbt (a.take k) b)) (x, y)) := h9
        clear h9 hy hn
        go_wp2_with (first | (go_at_call 37; refine Calls.mono (rcont_b _ b (by omega) x y false hh _ (p2.to bBel)) ?_; rintro e w1 ⟨rfl, hb1⟩; have hbw1 := Below.trans hb (hb1.mono hszR); have hszw1 := hbw1.size; obtain ⟨og1, d01, d11⟩ : older g w1 = true ∧ w1.cell? ⟨g, o, none⟩ = some (.int .i64 x) ∧ w1.cell? ⟨g, o + 1, none⟩ = some (.int .i64 y) := ⟨older_iff.2 (Nat.lt_of_lt_of_le (older_iff.1 og) hb1.size), (hb1.cell (p := ⟨g, o, none⟩) (older_iff.1 og)).trans d0, (hb1.cell (p := ⟨g, o + 1, none⟩) (older_iff.1 og)).trans d1⟩; have hown9 := owns_below hown hb1) | (go_at_call 36; refine Calls.mono (rins21_b w.heap.size _ (mrg (sbt (a.take k) b)) x y (by omega) _ hszw1 hown9) ?_; rw [← h8.out]; rintro e w2 ⟨⟨v', rfl, hown1⟩, hb2⟩))
        exact ⟨⟨k + 1, by omega, by go_num, hown1, Below.trans hbw1 (hb2.mono hszw1)⟩, by (try go_num); simp [intOf]; (try omega)⟩
    · obtain rfl : k = a.length := by omega
      rw [List.take_length, hR.out] at hown
      have hownS := own_hid hown
      clear hown
      go_wp2_with fail
      go_ret
      exact ⟨⟨_, rfl, hownS.out⟩, hb⟩

end Go.Proofs.Ytfhhkabdeajieaa
