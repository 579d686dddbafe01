/- Chapter 20: the reference's searches. -/
import Derived.Test.YtdldlcibjjccpaaByD
import Derived.Test.YtdldlcibjjccpaaBxG
import Derived.Deep.DeepCutAuto
set_option linter.unusedVariables false
set_option linter.unusedSimpArgs false
namespace Go.Proofs.Ytdldlcibjjccpaa
open Go.RowKit Fx

theorem hitL_snoc {L : Bxs} {k : Nat} (hk : k < L.length) (mm : Bx → Bool) : hitL (L.take (k + 1)) mm = hitL (L.take k) mm ++ if mm L[k].2 then [L[k].1] else [] := by
  unfold hitL
  rw [List.take_add_one, List.getElem?_eq_getElem hk, List.filter_append, List.map_append]
  simp only [Option.toList_some, List.filter_cons, List.filter_nil]
  split <;> rfl
theorem hitL_take_len (L : Bxs) (k : Nat) (mm : Bx → Bool) : (hitL (L.take k) mm).length ≤ L.length := Nat.le_trans (hitL_len _ _) (by rw [List.length_take]; exact Nat.min_le_right _ _)

set_option maxRecDepth 100000 in
set_option maxHeartbeats 16000000 in
theorem rquery_b (m : Nat) (L : Bxs) (nl : Bool) (R : Nat → Prop) (x0 y0 x1 y1 : Int) (w : World) (h : RefAt w m L nl R) : Calls Try.prog 45 #[.pointer (some ⟨m, 0, none⟩), .agg #[.int .i64 x0, .int .i64 y0, .int .i64 x1, .int .i64 y1]] w fun e w' => (∃ v, e = .returned v ∧ w'.ownsRow w.heap.size 3 1 v (hitL L (fun b => Bx.ovl b ⟨x0, y0, x1, y1⟩)).length (iv (hitL L (fun b => Bx.ovl b ⟨x0, y0, x1, y1⟩)))) ∧ Below w.heap.size w w' := by
  obtain ⟨i0, hi, hz0, hz1, hz2⟩ := info_parts info_int20
  obtain ⟨v1, v2, kt, h1, h2, -, -⟩ := h.mem
  have hlen := h.len
  have hltt := blk_lt kt
  have h1' := ids_row h1 rfl
  have i1 := fun k (hk : k < (ids L).length) => ints_ix h1' hk
  have i2 := fun k (hk : k < L.length) => bxs_ix h2 hk
  have l1 := fun ty W => row_len u_ints h1 ty W
  have l2 := fun ty W => row_len u_bxs h2 ty W
  obtain ⟨n, hn'⟩ : ∃ n, L.length = n := ⟨_, rfl⟩
  rw [hn'] at hlen l1 l2
  have hn : Hid (L.length = n) := hn'
  have hT : Hid (L.take n = L) := by show _ = _; rw [← hn']; exact List.take_length
  obtain ⟨mm, hmm'⟩ : ∃ mm, (fun b => Bx.ovl b ⟨x0, y0, x1, y1⟩) = mm := ⟨_, rfl⟩
  rw [hmm']
  have hmm : Hid ((fun b => Bx.ovl b ⟨x0, y0, x1, y1⟩) = mm) := hmm'
  clear h h1 h2 h1' hmm' hn'
  go_enter Try.func45, Try.ntmps45
  go_upto_region 3 with fail
  refine wp_named ?_
  intro W hW
  have kq : blk W w.heap.size #[.int .i64 x0, .int .i64 y0, .int .i64 x1, .int .i64 y1] 26 := by rw [hW]; exact bBkn
  have hbW : Below w.heap.size w W := by rw [hW]; exact bBel
  clear hW
  have hszW := hbW.size
  have ktW := blk_below hbW kt
  go_wp2_with fail
  go_loopw [5, 6] (fun q i wr => ∃ k : Nat, k ≤ n ∧ i = .int .i64 (k : Int) ∧ Hid (wr.ownsRow W.heap.size 3 1 q (hitL (L.take k) mm).length (iv (hitL (L.take k) mm))) ∧ Below W.heap.size W wr) (fun _ i _ => n - (intOf i).toNat)
  case atStart => exact ⟨0, by omega, rfl, World.ownsRow_nil _ _ _ _, bBel⟩
  case round =>
    obtain ⟨k, hk, rfl, hown, hbR⟩ := hrel
    have hszR := hbR.size
    have hbw := hbW.trans (hbR.mono hszW)
    have ktR := blk_below hbR ktW
    have kqR := blk_below hbR kq
    have oktR := blk_older ktR
    have cktR_0 : _ = some _ := blk_cell ktR 0
    have cktR_1 : _ = some _ := blk_cell ktR 1
    have cktR_2 : _ = some _ := blk_cell ktR 2
    have fktR_0 := blk_free ktR 0
    have fktR_1 := blk_free ktR 1
    have fktR_2 := blk_free ktR 2
    have okqR := blk_older kqR
    have ckqR_0 : _ = some _ := blk_cell kqR 0
    have ckqR_1 : _ = some _ := blk_cell kqR 1
    have ckqR_2 : _ = some _ := blk_cell kqR 2
    have ckqR_3 : _ = some _ := blk_cell kqR 3
    have fkqR_0 := blk_free kqR 0
    have fkqR_1 := blk_free kqR 1
    have fkqR_2 := blk_free kqR 2
    have fkqR_3 := blk_free kqR 3
    by_cases hkn : k < n
    · have hki : (k : Int) < (n : Int) := by omega
      have hkL : k < L.length := by have := hn.out; omega
      have hkl : k < (ids L).length := by rw [List.length_map]; exact hkL
      obtain ⟨g1, -, j1, c1⟩ := i1 k hkl
      obtain ⟨g2, -, j2, c2⟩ := i2 k hkL
      have hx : Hid ((ids L)[k] = L[k].1) := by show _ = _; simp [ids]
      rw [hx.out] at c1
      have hq : Hid (hitL (L.take (k + 1)) mm = hitL (L.take k) mm ++ if mm L[k].2 then [L[k].1] else []) := hitL_snoc hkL mm
      have hQl : (hitL (L.take k) mm).length ≤ 4096 := Nat.le_trans (hitL_take_len L k mm) (by have := hn.out; omega)
      clear hx i1 i2
      generalize L[k] = el at *
      obtain ⟨ii, a0, a1, a2, a3⟩ := el
      dsimp only at c1 c2 hq
      obtain ⟨o2, d0, d1, d2, d3⟩ := c2 wr hbw
      obtain ⟨D, hD⟩ : ∃ D, mm ⟨a0, a1, a2, a3⟩ = D := ⟨_, rfl⟩
      rw [hD] at hq
      rw [← hmm.out] at hD
      have cO := fun w' => rxovl_b a0 a1 a2 a3 x0 y0 x1 y1 w'
      rw [show ovl8 a0 a1 a2 a3 x0 y0 x1 y1 = D from hD] at cO
      clear hD c2
      have hq : Hid (hitL (L.take (k + 1)) mm = hitL (L.take k) mm ++ if D then [ii] else []) := hq
      generalize hitL (L.take k) mm = qk at *
      cases D
      · go_upto_region 5 with fail
        refine wp_region_gw (by kernel_rfl) (by kernel_rfl) ?_
        repeat (go_big_quiet_step ((first | (go_at_call 47; with_reducible_and_instances exact gw_call (cO _)))))
        refine wpQuiet_nil ?_
        intro w1 hw1
        obtain ⟨q, rfl⟩ := hw1
        go_wp2_with fail
        refine ⟨⟨k + 1, by omega, by go_num, (by rw [hq.out]; simp only [Bool.false_eq_true, if_false, List.append_nil]; exact owns_below hown.out bBel), bBel⟩, by (try go_num); simp [intOf]; (try omega)⟩
      · go_upto_region 5 with fail
        refine wp_region_gw (by kernel_rfl) (by kernel_rfl) ?_
        repeat (go_big_quiet_step ((first | (go_at_call 47; with_reducible_and_instances exact gw_call (cO _)))))
        refine wpQuiet_nil ?_
        intro w1 hw1
        obtain ⟨q, rfl⟩ := hw1
        go_upto_region 6 with fail
        refine wp_named ?_
        intro Y hY
        have hbY : Below wr.heap.size wr Y := by rw [hY]; exact bBel
        clear hY
        have hbY1 := hbR.trans (hbY.mono hszR)
        have hszY := hbY1.size
        have ktY := blk_below hbY ktR
        obtain ⟨o1, e0⟩ := c1 Y (hbw.trans (hbY.mono hbw.size))
        have ho := owns_below hown.out hbY
        clear hown c1 ktR
        have oktY := blk_older ktY
        have cktY_0 : _ = some _ := blk_cell ktY 0
        have cktY_1 : _ = some _ := blk_cell ktY 1
        have cktY_2 : _ = some _ := blk_cell ktY 2
        have fktY_0 := blk_free ktY 0
        have fktY_1 := blk_free ktY 1
        have fktY_2 := blk_free ktY 2
        go_wp2_with (at_builtin; refine wpList_app10 rfl _ _ 30 rfl W.heap.size 3 i0 (.int .i64 0) 8 (by kernel_rfl) hi hz0 hz1 hz2 rfl _ _ _ rfl (owns_below ho bBel) _ (.int .i64 ii) 3 rfl bBkn rfl (by unfold maxLen; omega) (by omega) (by first | (simp; omega) | omega) ?_; intro v' w2 hown2 hb2 hg2 ho2)
        refine ⟨⟨k + 1, by omega, by go_num, (by rw [hq.out]; simp only [if_true]; exact own_castk hown2 (by simp) (by simp [iv])), Below.trans bBel hb2⟩, by (try go_num); simp [intOf]; (try omega)⟩
    · obtain rfl : k = n := by omega
      rw [hT.out] at hown
      clear i1 i2
      go_wp2_with fail
      go_ret
      exact ⟨⟨_, rfl, owns_base (owns_below hown.out bBel) hszW⟩, bBel⟩

set_option maxRecDepth 100000 in
set_option maxHeartbeats 16000000 in
theorem rray_b (m : Nat) (L : Bxs) (nl : Bool) (R : Nat → Prop) (x0 y0 x1 y1 : Int) (w : World) (h : RefAt w m L nl R) : Calls Try.prog 46 #[.pointer (some ⟨m, 0, none⟩), .agg #[.int .i64 x0, .int .i64 y0], .agg #[.int .i64 x1, .int .i64 y1]] w fun e w' => (∃ v, e = .returned v ∧ w'.ownsRow w.heap.size 3 1 v (hitL L (fun b => Bx.seg b x0 y0 x1 y1)).length (iv (hitL L (fun b => Bx.seg b x0 y0 x1 y1)))) ∧ Below w.heap.size w w' := by
  obtain ⟨i0, hi, hz0, hz1, hz2⟩ := info_parts info_int20
  obtain ⟨v1, v2, kt, h1, h2, -, -⟩ := h.mem
  have hlen := h.len
  have hltt := blk_lt kt
  have h1' := ids_row h1 rfl
  have i1 := fun k (hk : k < (ids L).length) => ints_ix h1' hk
  have i2 := fun k (hk : k < L.length) => bxs_ix h2 hk
  have l1 := fun ty W => row_len u_ints h1 ty W
  have l2 := fun ty W => row_len u_bxs h2 ty W
  obtain ⟨n, hn'⟩ : ∃ n, L.length = n := ⟨_, rfl⟩
  rw [hn'] at hlen l1 l2
  have hn : Hid (L.length = n) := hn'
  have hT : Hid (L.take n = L) := by show _ = _; rw [← hn']; exact List.take_length
  obtain ⟨mm, hmm'⟩ : ∃ mm, (fun b => Bx.seg b x0 y0 x1 y1) = mm := ⟨_, rfl⟩
  rw [hmm']
  have hmm : Hid ((fun b => Bx.seg b x0 y0 x1 y1) = mm) := hmm'
  clear h h1 h2 h1' hmm' hn'
  go_enter Try.func46, Try.ntmps46
  go_upto_region 3 with fail
  refine wp_named ?_
  intro W hW
  have kp : blk W w.heap.size #[.int .i64 x0, .int .i64 y0] 24 := by rw [hW]; exact bBkn
  have kq : blk W (w.heap.size + 1) #[.int .i64 x1, .int .i64 y1] 24 := by rw [hW]; exact bBkn
  have hbW : Below w.heap.size w W := by rw [hW]; exact bBel
  clear hW
  have hszW := hbW.size
  have ktW := blk_below hbW kt
  go_wp2_with fail
  go_loopw [7, 8] (fun q i wr => ∃ k : Nat, k ≤ n ∧ i = .int .i64 (k : Int) ∧ Hid (wr.ownsRow W.heap.size 3 1 q (hitL (L.take k) mm).length (iv (hitL (L.take k) mm))) ∧ Below W.heap.size W wr) (fun _ i _ => n - (intOf i).toNat)
  case atStart => exact ⟨0, by omega, rfl, World.ownsRow_nil _ _ _ _, bBel⟩
  case round =>
    obtain ⟨k, hk, rfl, hown, hbR⟩ := hrel
    have hszR := hbR.size
    have hbw := hbW.trans (hbR.mono hszW)
    have ktR := blk_below hbR ktW
    have kpR := blk_below hbR kp
    have kqR := blk_below hbR kq
    have oktR := blk_older ktR
    have cktR_0 : _ = some _ := blk_cell ktR 0
    have cktR_1 : _ = some _ := blk_cell ktR 1
    have cktR_2 : _ = some _ := blk_cell ktR 2
    have fktR_0 := blk_free ktR 0
    have fktR_1 := blk_free ktR 1
    have fktR_2 := blk_free ktR 2
    have okpR := blk_older kpR
    have ckpR_0 : _ = some _ := blk_cell kpR 0
    have ckpR_1 : _ = some _ := blk_cell kpR 1
    have fkpR_0 := blk_free kpR 0
    have fkpR_1 := blk_free kpR 1
    have okqR := blk_older kqR
    have ckqR_0 : _ = some _ := blk_cell kqR 0
    have ckqR_1 : _ = some _ := blk_cell kqR 1
    have fkqR_0 := blk_free kqR 0
    have fkqR_1 := blk_free kqR 1
    by_cases hkn : k < n
    · have hki : (k : Int) < (n : Int) := by omega
      have hkL : k < L.length := by have := hn.out; omega
      have hkl : k < (ids L).length := by rw [List.length_map]; exact hkL
      obtain ⟨g1, -, j1, c1⟩ := i1 k hkl
      obtain ⟨g2, -, j2, c2⟩ := i2 k hkL
      have hx : Hid ((ids L)[k] = L[k].1) := by show _ = _; simp [ids]
      rw [hx.out] at c1
      have hq : Hid (hitL (L.take (k + 1)) mm = hitL (L.take k) mm ++ if mm L[k].2 then [L[k].1] else []) := hitL_snoc hkL mm
      have hQl : (hitL (L.take k) mm).length ≤ 4096 := Nat.le_trans (hitL_take_len L k mm) (by have := hn.out; omega)
      clear hx i1 i2
      generalize L[k] = el at *
      obtain ⟨ii, a0, a1, a2, a3⟩ := el
      dsimp only at c1 c2 hq
      obtain ⟨o2, d0, d1, d2, d3⟩ := c2 wr hbw
      obtain ⟨D, hD⟩ : ∃ D, mm ⟨a0, a1, a2, a3⟩ = D := ⟨_, rfl⟩
      rw [hD] at hq
      rw [← hmm.out] at hD
      have cO := fun w' => rxseg_b a0 a1 a2 a3 x0 y0 x1 y1 w'
      rw [show seg8 a0 a1 a2 a3 x0 y0 x1 y1 = D from hD] at cO
      clear hD c2
      have hq : Hid (hitL (L.take (k + 1)) mm = hitL (L.take k) mm ++ if D then [ii] else []) := hq
      generalize hitL (L.take k) mm = qk at *
      cases D
      · go_upto_region 5 with fail
        refine wp_region_gw (by kernel_rfl) (by kernel_rfl) ?_
        repeat (go_big_quiet_step ((first | (go_at_call 61; with_reducible_and_instances exact gw_call (cO _)))))
        refine wpQuiet_nil ?_
        intro w1 hw1
        obtain ⟨q, rfl⟩ := hw1
        go_wp2_with fail
        refine ⟨⟨k + 1, by omega, by go_num, (by rw [hq.out]; simp only [Bool.false_eq_true, if_false, List.append_nil]; exact owns_below hown.out bBel), bBel⟩, by (try go_num); simp [intOf]; (try omega)⟩
      · go_upto_region 5 with fail
        refine wp_region_gw (by kernel_rfl) (by kernel_rfl) ?_
        repeat (go_big_quiet_step ((first | (go_at_call 61; with_reducible_and_instances exact gw_call (cO _)))))
        refine wpQuiet_nil ?_
        intro w1 hw1
        obtain ⟨q, rfl⟩ := hw1
        go_upto_region 6 with fail
        refine wp_named ?_
        intro Y hY
        have hbY : Below wr.heap.size wr Y := by rw [hY]; exact bBel
        clear hY
        have hbY1 := hbR.trans (hbY.mono hszR)
        have hszY := hbY1.size
        have ktY := blk_below hbY ktR
        obtain ⟨o1, e0⟩ := c1 Y (hbw.trans (hbY.mono hbw.size))
        have ho := owns_below hown.out hbY
        clear hown c1 ktR
        have oktY := blk_older ktY
        have cktY_0 : _ = some _ := blk_cell ktY 0
        have cktY_1 : _ = some _ := blk_cell ktY 1
        have cktY_2 : _ = some _ := blk_cell ktY 2
        have fktY_0 := blk_free ktY 0
        have fktY_1 := blk_free ktY 1
        have fktY_2 := blk_free ktY 2
        go_wp2_with (at_builtin; refine wpList_app10 rfl _ _ 30 rfl W.heap.size 3 i0 (.int .i64 0) 8 (by kernel_rfl) hi hz0 hz1 hz2 rfl _ _ _ rfl (owns_below ho bBel) _ (.int .i64 ii) 3 rfl bBkn rfl (by unfold maxLen; omega) (by omega) (by first | (simp; omega) | omega) ?_; intro v' w2 hown2 hb2 hg2 ho2)
        refine ⟨⟨k + 1, by omega, by go_num, (by rw [hq.out]; simp only [if_true]; exact own_castk hown2 (by simp) (by simp [iv])), Below.trans bBel hb2⟩, by (try go_num); simp [intOf]; (try omega)⟩
    · obtain rfl : k = n := by omega
      rw [hT.out] at hown
      clear i1 i2
      go_wp2_with fail
      go_ret
      exact ⟨⟨_, rfl, owns_base (owns_below hown.out bBel) hszW⟩, bBel⟩

end Go.Proofs.Ytdldlcibjjccpaa
