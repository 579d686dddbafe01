/- Chapter 21, TopPairs: applyOp, applied, containsPair. -/
import Derived.Test.YtfhhkabdeajieaaSpI
import Derived.Test.YtfhhkabdeajieaaSpH
import Derived.Test.YtfhhkabdeajieaaBwC
import Derived.Test.YtfhhkabdeajieaaBvU
set_option linter.unusedVariables false
set_option linter.unusedSimpArgs false
namespace Go.Proofs.Ytfhhkabdeajieaa
open Go.RowKit Fx

/-- Whether the tree accepts an operation. -/
def opB (L : Bxs) (d : TopD) : Bool := if d.k % 3 = 0 then insC L d.i d.x == 0 else if d.k % 3 = 1 then updC L d.i d.x == 0 else (look L d.i).isSome
/-- The tree's list behind it. -/
def opT (L : Bxs) (d : TopD) : Bxs := if d.k % 3 = 0 then insT L d.i d.x else if d.k % 3 = 1 then updT L d.i d.x else remL L d.i
/-- The entries behind an operation that was accepted. -/
def opE (l : Bxs) (d : TopD) : Bxs := remL l d.i ++ if d.k % 3 = 2 then [] else [(d.i, d.x)]
theorem top3 {k : Int} (h0 : 0 ≤ k) : (k % 3 = 0 ∧ k.tmod 3 = 0) ∨ (k % 3 = 1 ∧ k.tmod 3 = 1) ∨ (k % 3 = 2 ∧ k.tmod 3 = 2) := by
  rw [Int.tmod_eq_emod_of_nonneg h0]; omega
theorem turns_mv {a : Nat} {L' : Bxs} {S S' : Nat → Prop} {w V X X' : World} (hbV : Below w.heap.size w V) (h : TreeAt X a L' S') (hb : Below X.heap.size X X') (hs : But S V X ∧ ∀ k, S' k → S k ∨ V.heap.size ≤ k) : Turns a L' S w X' :=
  ⟨S', h.below hb, ((But.ofBelow hbV S).trans hs.1 fun k _ h => h).trans (But.ofBelow hb S) fun k _ h => h, fun k hk => (hs.2 k hk).imp id fun h => Nat.le_trans hbV.size h⟩
theorem hidV {p : Prop} (h : p) : Hid p := h

set_option maxRecDepth 100000 in
set_option maxHeartbeats 8000000 in
theorem aop_b (a : Nat) (L : Bxs) (S : Nat → Prop) (d : TopD) (hi : i64k d.i) (h0 : 0 ≤ d.k) (w : World) (h : TreeAt w a L S) : Calls Try.prog 23 #[.pointer (some ⟨a, 0, none⟩), .agg #[.int .u8 d.k, .int .i64 d.i, .int .i64 d.x.x0, .int .i64 d.x.y0, .int .i64 d.x.x1, .int .i64 d.x.y1]] w fun e w' => e = .returned (.bool (opB L d)) ∧ Turns a (opT L d) S w w' := by
  obtain ⟨k, i, x0, x1, x2, x3⟩ := d
  dsimp only at hi h0 ⊢
  rcases top3 h0 with ⟨e1, e2⟩ | ⟨e1, e2⟩ | ⟨e1, e2⟩
  · obtain ⟨cd, hcd⟩ : ∃ cd, Hid (insC L i ⟨x0, x1, x2, x3⟩ = cd) := ⟨_, rfl⟩
    have cI := ins_c a L (insT L i ⟨x0, x1, x2, x3⟩) i x0 x1 x2 x3 cd hi hcd.out rfl
    rw [show opB L ⟨k, i, ⟨x0, x1, x2, x3⟩⟩ = (cd == 0) from by unfold opB; dsimp only; rw [if_pos e1, hcd.out], show opT L ⟨k, i, ⟨x0, x1, x2, x3⟩⟩ = insT L i ⟨x0, x1, x2, x3⟩ from if_pos e1]
    generalize insT L i ⟨x0, x1, x2, x3⟩ = L2 at *
    go_enter Try.func23, Try.ntmps23
    go_upto_region 1 with fail
    refine wp_named ?_
    intro V hV
    have kop : blk V w.heap.size #[.int .u8 k, .int .i64 i, .int .i64 x0, .int .i64 x1, .int .i64 x2, .int .i64 x3] 52 := by rw [hV]; exact bBkn
    have hbV : Below w.heap.size w V := by rw [hV]; exact bBel
    clear hV
    have hTV := h.below hbV
    have okop := blk_older kop
    have ckop_0 : _ = some _ := blk_cell kop 0
    have ckop_1 : _ = some _ := blk_cell kop 1
    have ckop_2 : _ = some _ := blk_cell kop 2
    have ckop_3 : _ = some _ := blk_cell kop 3
    have ckop_4 : _ = some _ := blk_cell kop 4
    have ckop_5 : _ = some _ := blk_cell kop 5
    have fkop_0 := blk_free kop 0
    have fkop_1 := blk_free kop 1
    have fkop_2 := blk_free kop 2
    have fkop_3 := blk_free kop 3
    have fkop_4 := blk_free kop 4
    have fkop_5 := blk_free kop 5
    go_wp2_with (go_at_call 41; refine turn_use cI hTV ?_; intro X S2 hT2 hs2)
    go_ret
    exact ⟨rfl, turns_mv hbV hT2 bBel hs2.out⟩
  · obtain ⟨cd, hcd⟩ : ∃ cd, Hid (updC L i ⟨x0, x1, x2, x3⟩ = cd) := ⟨_, rfl⟩
    have cI := upd_c a L (updT L i ⟨x0, x1, x2, x3⟩) i x0 x1 x2 x3 cd hi hcd.out rfl
    have e3 : ¬ k % 3 = 0 := by omega
    rw [show opB L ⟨k, i, ⟨x0, x1, x2, x3⟩⟩ = (cd == 0) from by unfold opB; dsimp only; rw [if_neg e3, if_pos e1, hcd.out], show opT L ⟨k, i, ⟨x0, x1, x2, x3⟩⟩ = updT L i ⟨x0, x1, x2, x3⟩ from (if_neg e3).trans (if_pos e1)]
    generalize updT L i ⟨x0, x1, x2, x3⟩ = L2 at *
    clear e3
    go_enter Try.func23, Try.ntmps23
    go_upto_region 1 with fail
    refine wp_named ?_
    intro V hV
    have kop : blk V w.heap.size #[.int .u8 k, .int .i64 i, .int .i64 x0, .int .i64 x1, .int .i64 x2, .int .i64 x3] 52 := by rw [hV]; exact bBkn
    have hbV : Below w.heap.size w V := by rw [hV]; exact bBel
    clear hV
    have hTV := h.below hbV
    have okop := blk_older kop
    have ckop_0 : _ = some _ := blk_cell kop 0
    have ckop_1 : _ = some _ := blk_cell kop 1
    have ckop_2 : _ = some _ := blk_cell kop 2
    have ckop_3 : _ = some _ := blk_cell kop 3
    have ckop_4 : _ = some _ := blk_cell kop 4
    have ckop_5 : _ = some _ := blk_cell kop 5
    have fkop_0 := blk_free kop 0
    have fkop_1 := blk_free kop 1
    have fkop_2 := blk_free kop 2
    have fkop_3 := blk_free kop 3
    have fkop_4 := blk_free kop 4
    have fkop_5 := blk_free kop 5
    go_wp2_with (go_at_call 42; refine turn_use cI hTV ?_; intro X S2 hT2 hs2)
    go_ret
    exact ⟨rfl, turns_mv hbV hT2 bBel hs2.out⟩
  · obtain ⟨D, hD⟩ : ∃ D, Hid ((look L i).isSome = D) := ⟨_, rfl⟩
    have cI := rem_c a L (remL L i) i D hi hD.out rfl
    have e3 : ¬ k % 3 = 0 := by omega
    have e4 : ¬ k % 3 = 1 := by omega
    rw [show opB L ⟨k, i, ⟨x0, x1, x2, x3⟩⟩ = D from by unfold opB; dsimp only; rw [if_neg e3, if_neg e4, hD.out], show opT L ⟨k, i, ⟨x0, x1, x2, x3⟩⟩ = remL L i from (if_neg e3).trans (if_neg e4)]
    generalize remL L i = L2 at *
    clear e3 e4
    go_enter Try.func23, Try.ntmps23
    go_upto_region 1 with fail
    refine wp_named ?_
    intro V hV
    have kop : blk V w.heap.size #[.int .u8 k, .int .i64 i, .int .i64 x0, .int .i64 x1, .int .i64 x2, .int .i64 x3] 52 := by rw [hV]; exact bBkn
    have hbV : Below w.heap.size w V := by rw [hV]; exact bBel
    clear hV
    have hTV := h.below hbV
    have okop := blk_older kop
    have ckop_0 : _ = some _ := blk_cell kop 0
    have ckop_1 : _ = some _ := blk_cell kop 1
    have ckop_2 : _ = some _ := blk_cell kop 2
    have ckop_3 : _ = some _ := blk_cell kop 3
    have ckop_4 : _ = some _ := blk_cell kop 4
    have ckop_5 : _ = some _ := blk_cell kop 5
    have fkop_0 := blk_free kop 0
    have fkop_1 := blk_free kop 1
    have fkop_2 := blk_free kop 2
    have fkop_3 := blk_free kop 3
    have fkop_4 := blk_free kop 4
    have fkop_5 := blk_free kop 5
    go_wp2_with (go_at_call 43; refine turn_use cI hTV ?_; intro X S2 hT2 hs2)
    go_ret
    exact ⟨rfl, turns_mv hbV hT2 bBel hs2.out⟩

theorem remL_take {l : Bxs} {k : Nat} (h : k < l.length) (i : Int) : remL (l.take (k + 1)) i = remL (l.take k) i ++ if l[k].1 = i then [] else [l[k]] := by
  rw [← List.take_append_getElem h, remL, remL, List.filter_append]
  by_cases c : l[k].1 = i <;> simp [c]
theorem remL_take_len (l : Bxs) (i : Int) (k : Nat) : (remL (l.take k) i).length ≤ l.length := Nat.le_trans (List.length_filter_le _ _) (by rw [List.length_take]; omega)

set_option maxRecDepth 100000 in
set_option maxHeartbeats 8000000 in
theorem apd_b (v : Value) (l : List En) (d : TopD) (hl : l.length ≤ 1000) (h0 : 0 ≤ d.k) (w : World) (h : Vw5 22 w v l) : Calls Try.prog 24 #[v, .agg #[.int .u8 d.k, .int .i64 d.i, .int .i64 d.x.x0, .int .i64 d.x.y0, .int .i64 d.x.x1, .int .i64 d.x.y1]] w fun e w' => (∃ v', e = .returned v' ∧ w'.ownsRow w.heap.size 33 5 v' (opE l d).length (ev (opE l d))) ∧ Below w.heap.size w w' := by
  obtain ⟨i0, hi, hz0, hz1, hz2⟩ := info_parts info_ent
  obtain ⟨dk, i, x0, x1, x2, x3⟩ := d
  dsimp only at h0 ⊢
  have hlen := h.len
  obtain ⟨R, hR⟩ : ∃ R, Hid (opE l ⟨dk, i, ⟨x0, x1, x2, x3⟩⟩ = R) := ⟨_, rfl⟩
  rw [hR.out]
  go_enter Try.func24, Try.ntmps24
  go_upto_region 1 with fail
  refine wp_named ?_
  intro W hW
  have kop : blk W w.heap.size #[.int .u8 dk, .int .i64 i, .int .i64 x0, .int .i64 x1, .int .i64 x2, .int .i64 x3] 52 := by rw [hW]; exact bBkn
  have hbW : Below w.heap.size w W := by rw [hW]; exact bBel
  clear hW
  have hszW := hbW.size
  have hltop := blk_lt kop
  go_wp2_with fail
  go_loopw [5, 6] (fun c j wr => ∃ k : Nat, k ≤ l.length ∧ j = .int .i64 (k : Int) ∧ wr.ownsRow W.heap.size 33 5 c (remL (l.take k) i).length (ev (remL (l.take k) i)) ∧ Below W.heap.size W wr) (fun _ j _ => l.length - (intOf j).toNat)
  case atStart => exact ⟨0, by omega, rfl, World.ownsRow_nil _ _ _ _, Below.refl _ _⟩
  case round =>
    obtain ⟨k, hk, rfl, hown, hb⟩ := hrel
    have hszR := hb.size
    have kR := blk_below hb kop
    have hbw := Below.trans hbW (hb.mono hszW)
    have hszw := hbw.size
    have okR := blk_older kR
    have ckR_0 : _ = some _ := blk_cell kR 0
    have ckR_1 : _ = some _ := blk_cell kR 1
    have ckR_2 : _ = some _ := blk_cell kR 2
    have ckR_3 : _ = some _ := blk_cell kR 3
    have ckR_4 : _ = some _ := blk_cell kR 4
    have ckR_5 : _ = some _ := blk_cell kR 5
    have fkR_0 := blk_free kR 0
    have fkR_1 := blk_free kR 1
    have fkR_2 := blk_free kR 2
    have fkR_3 := blk_free kR 3
    have fkR_4 := blk_free kR 4
    have fkR_5 := blk_free kR 5
    have hrl := remL_take_len l i k
    by_cases hlt : k < l.length
    · obtain ⟨g, o, hix, hc⟩ := h.ix k hlt
      obtain ⟨og, d0, d1, d2, d3, d4⟩ := hc wr hbw
      have hst : Hid (remL (l.take (k + 1)) i = remL (l.take k) i ++ if l[k].1 = i then [] else [l[k]]) := remL_take hlt i
      clear hc
      generalize l[k] = e at *
      obtain ⟨j, y0, y1, y2, y3⟩ := e
      dsimp only at d0 d1 d2 d3 d4 hst
      generalize remL (l.take k) i = O at *
      by_cases c : j = i
      · have c1 : (j != i) = false := by rw [bne_eq_false_iff_eq]; exact c
        have hst2 : Hid (remL (l.take (k + 1)) i = O) := by show _ = _; rw [hst.out, if_pos c, List.append_nil]
        clear hst c
        go_wp2_with fail
        refine wp_region_gw (by kernel_rfl) (by kernel_rfl) ?_
        repeat (go_big_quiet_step (fail))
        refine wpQuiet_nil ?_
        intro w1 hw1
        obtain ⟨q, rfl⟩ := hw1
        go_wp2_with fail
        exact ⟨⟨k + 1, by omega, by go_num, by rw [hst2.out]; exact owns_below hown bBel, bBel⟩, by (try go_num); simp [intOf]; (try omega)⟩
      · have c1 : (j != i) = true := by rw [bne_iff_ne]; exact c
        have hst2 : Hid (remL (l.take (k + 1)) i = O ++ [(j, ⟨y0, y1, y2, y3⟩)]) := by show _ = _; rw [hst.out, if_neg c]
        clear hst c
        go_wp2_with fail
        refine wp_region_gw (by kernel_rfl) (by kernel_rfl) ?_
        repeat (go_big_quiet_step (fail))
        refine wpQuiet_nil ?_
        intro w1 hw1
        obtain ⟨q, rfl⟩ := hw1
        go_wp2_with (at_builtin; refine wpList_app21 rfl _ _ 22 rfl W.heap.size 33 i0 (.agg #[.int .i64 0, .int .i64 0, .int .i64 0, .int .i64 0, .int .i64 0]) 5 40 (by kernel_rfl) hi hz0 hz1 hz2 rfl (by decide) _ _ _ rfl (owns_below hown bBel) _ [.int .i64 j, .int .i64 y0, .int .i64 y1, .int .i64 y2, .int .i64 y3] 33 rfl rfl bBkn (by intro u hu; simp at hu; rcases hu with rfl | rfl | rfl | rfl | rfl <;> rfl) (by unfold maxLen; omega) (by omega) (by first | (simp; done) | (simp; omega) | omega) ?_; intro v' w2 hown2 hb2 hg2 ho2)
        exact ⟨⟨k + 1, by omega, by go_num, by rw [hst2.out, ev_snoc, List.length_append]; exact hown2, Below.trans bBel hb2⟩, by (try go_num); simp [intOf]; (try omega)⟩
    · obtain rfl : k = l.length := by omega
      rw [List.take_length] at hown hrl
      rcases top3 h0 with ⟨e1, e2⟩ | ⟨e1, e2⟩ | ⟨e1, e2⟩
      rotate_left 2
      · have hRe : Hid (remL l i = R) := by show _ = _; rw [← hR.out]; unfold opE; dsimp only; rw [if_pos e1, List.append_nil]
        rw [hRe.out] at hown
        have hownS := own_hid hown
        clear hown
        go_wp2_with fail
        go_ret
        exact ⟨⟨_, rfl, owns_base (owns_below hownS.out bBel) (by omega)⟩, bBel⟩
      all_goals
        have hRe : Hid (remL l i ++ [(i, ⟨x0, x1, x2, x3⟩)] = R) := by show _ = _; rw [← hR.out]; unfold opE; dsimp only; rw [if_neg (by omega)]
        generalize remL l i = O at *
        go_wp2_with (at_builtin; refine wpList_app21 rfl _ _ 22 rfl W.heap.size 33 i0 (.agg #[.int .i64 0, .int .i64 0, .int .i64 0, .int .i64 0, .int .i64 0]) 5 40 (by kernel_rfl) hi hz0 hz1 hz2 rfl (by decide) _ _ _ rfl (owns_below hown bBel) _ [.int .i64 i, .int .i64 x0, .int .i64 x1, .int .i64 x2, .int .i64 x3] 33 rfl rfl bBkn (by intro u hu; simp at hu; rcases hu with rfl | rfl | rfl | rfl | rfl <;> rfl) (by unfold maxLen; omega) (by omega) (by first | (simp; done) | (simp; omega) | omega) ?_; intro v' w2 hown2 hb2 hg2 ho2)
        have hownS : Hid (w2.ownsRow w.heap.size 33 5 v' R.length (ev R)) := by show World.ownsRow _ _ _ _ _ _ _; rw [← hRe.out, ev_snoc, List.length_append]; exact owns_base hown2 (by omega)
        clear hown2
        go_wp2_with fail
        go_ret
        exact ⟨⟨_, rfl, hownS.out⟩, Below.trans bBel (hb2.mono (by omega))⟩

set_option maxRecDepth 100000 in
set_option maxHeartbeats 4000000 in
theorem ctp_b (v : Value) (xs : List Pr) (hx : xs.length ≤ 1000000) (a b : Int) (K : Bool) (hK : xs.contains (min a b, max a b) = K) (w : World) (h : Vw2 w v xs) : Calls Try.prog 27 #[v, .int .i64 a, .int .i64 b] w fun e w' => e = .returned (.bool K) ∧ Below w.heap.size w w' := by
  have hlen := h.len
  obtain ⟨x, hx'⟩ : ∃ x, Hid (min a b = x) := ⟨_, rfl⟩
  obtain ⟨y, hy'⟩ : ∃ y, Hid (max a b = y) := ⟨_, rfl⟩
  rw [hx'.out, hy'.out] at hK
  have hK' : Hid (xs.contains (x, y) = K) := hK
  have m1 := hx'.out
  have m2 := hy'.out
  clear hK hx' hy'
  go_enter Try.func27, Try.ntmps27
  go_wp2_with fail
  go_loopw [7] (fun i wr => ∃ k : Nat, k ≤ xs.length ∧ i = .int .i64 (k : Int) ∧ Hid (∀ j (h : j < xs.length), j < k → xs[j] ≠ (x, y)) ∧ Below w.heap.size w wr) (fun i _ => xs.length - (intOf i).toNat)
  case atStart => exact ⟨0, by omega, rfl, fun j _ h => by omega, Below.refl _ _⟩
  case round =>
    obtain ⟨k, hk, rfl, hno, hb⟩ := hrel
    have hszR := hb.size
    by_cases hlt : k < xs.length
    · obtain ⟨g, o, hix, hc⟩ := h.ix k hlt
      obtain ⟨og, d0, d1⟩ := hc wr hb
      have hno2 : Hid (xs[k] ≠ (x, y) → ∀ j (h : j < xs.length), j < k + 1 → xs[j] ≠ (x, y)) := fun h2 j hj hjk => by
        rcases Nat.lt_or_eq_of_le (Nat.le_of_lt_succ hjk) with h3 | rfl
        · exact hno.out j hj h3
        · exact h2
      have hyes : Hid (xs[k] = (x, y) → K = true) := fun h2 => by rw [← hK'.out]; simp; rw [← h2]; exact List.getElem_mem hlt
      clear hc hno
      generalize xs[k] = e at *
      obtain ⟨p, q⟩ := e
      dsimp only at d0 d1
      by_cases c : p = x
      · have c1 : (p == x) = true := by rw [beq_iff_eq]; exact c
        by_cases c2 : q = y
        · have c3 : (q == y) = true := by rw [beq_iff_eq]; exact c2
          obtain rfl := hyes.out (by rw [c, c2])
          clear c c2 hno2 hyes
          go_wp2_with fail
          go_ret
          exact ⟨rfl, bBel⟩
        · have c3 : (q == y) = false := by rw [beq_eq_false_iff_ne]; exact c2
          have hn3 := hno2.out (fun e => c2 (congrArg Prod.snd e))
          have hn4 : Hid (∀ j (h : j < xs.length), j < k + 1 → xs[j] ≠ (x, y)) := hn3
          clear c c2 hno2 hyes hn3
          go_wp2_with fail
          exact ⟨⟨k + 1, by omega, by go_num, hn4, bBel⟩, by (try go_num); simp [intOf]; (try omega)⟩
      · have c1 : (p == x) = false := by rw [beq_eq_false_iff_ne]; exact c
        have hn3 := hno2.out (fun e => c (congrArg Prod.fst e))
        have hn4 : Hid (∀ j (h : j < xs.length), j < k + 1 → xs[j] ≠ (x, y)) := hn3
        clear c hno2 hyes hn3
        go_wp2_with fail
        exact ⟨⟨k + 1, by omega, by go_num, hn4, bBel⟩, by (try go_num); simp [intOf]; (try omega)⟩
    · obtain rfl : k = xs.length := by omega
      obtain rfl : K = false := by
        rw [← hK'.out]; simp
        intro hm
        obtain ⟨j, hj, e⟩ := List.getElem_of_mem hm
        exact hno.out j hj hj e
      go_wp2_with fail
      go_ret
      exact ⟨rfl, bBel⟩

end Go.Proofs.Ytfhhkabdeajieaa
