/- Chapter 20: the reference's pairs. -/
import Derived.Test.YtdldlcibjjccpaaByE
import Derived.Deep.DeepCutAuto
set_option linter.unusedVariables false
set_option linter.unusedSimpArgs false
namespace Go.Proofs.Ytdldlcibjjccpaa
open Go.RowKit Fx

/-- The pairs of the k-th box with the boxes behind it, up to the j-th. -/
def inR (L : Bxs) (e : Int × Bx) (k j : Nat) : List (Int × Int) := (((L.take j).drop (k + 1)).filter fun x => Bx.ovl e.2 x.2).map fun x => (e.1, x.1)
theorem inR_start (L : Bxs) (e : Int × Bx) (k : Nat) : inR L e k (k + 1) = [] := by
  unfold inR
  rw [List.drop_of_length_le (by rw [List.length_take]; omega)]; rfl
theorem inR_snoc {L : Bxs} {e : Int × Bx} {k j : Nat} (hj : j < L.length) (hk : k + 1 ≤ j) : inR L e k (j + 1) = inR L e k j ++ if Bx.ovl e.2 L[j].2 then [(e.1, L[j].1)] else [] := by
  unfold inR
  rw [List.take_add_one, List.getElem?_eq_getElem hj, List.drop_append_of_le_length (by simp; omega), List.filter_append, List.map_append]
  simp only [Option.toList_some, List.filter_cons, List.filter_nil]
  split <;> rfl
theorem inR_len (L : Bxs) (e : Int × Bx) (k j : Nat) : (inR L e k j).length ≤ L.length := by
  unfold inR
  rw [List.length_map]
  refine Nat.le_trans (List.length_filter_le _ _) ?_
  simp; omega
theorem srt_drop {L : Bxs} (h : Srt L) {k : Nat} (hk : k < L.length) : (L.filter fun x => decide (L[k].1 < x.1)) = L.drop (k + 1) := by
  refine srt_eq (h.filter _) (List.Pairwise.sublist (List.drop_sublist _ _) h) fun e => ?_
  rw [List.mem_filter, decide_eq_true_eq]
  constructor
  · rintro ⟨h1, h2⟩
    obtain ⟨j, hj, rfl⟩ := List.mem_iff_getElem.1 h1
    have hjk : k < j := by
      rcases Nat.lt_trichotomy j k with hlt | heq | hgt
      · have := srt_get h hlt hk; omega
      · subst heq; omega
      · exact hgt
    refine List.mem_iff_getElem.2 ⟨j - (k + 1), by simp; omega, ?_⟩
    rw [List.getElem_drop]; congr 1; omega
  · intro hm
    obtain ⟨j, hj, rfl⟩ := List.mem_iff_getElem.1 hm
    simp only [List.length_drop] at hj
    rw [List.getElem_drop]
    exact ⟨List.getElem_mem _, srt_get h (by omega) (by omega)⟩
theorem inR_all {L : Bxs} (h : Srt L) {k : Nat} (hk : k < L.length) : inR L L[k] k L.length = prs L L[k] := by
  unfold inR prs hitL
  rw [List.take_length, ← srt_drop h hk]
  simp only [List.filter_map, List.map_map, List.filter_filter]
  have e2 : (L.filter fun e => Bx.ovl L[k].2 e.2 && decide (L[k].1 < e.1)) = L.filter fun e => ((fun j => decide (L[k].1 < j)) ∘ fun e : Int × Bx => e.1) e && Bx.ovl e.2 L[k].2 := by
    congr 1; funext e; simp only [Function.comp]; rw [ovl_comm20, Bool.and_comm]
  rw [e2]; rfl

set_option maxRecDepth 100000 in
set_option maxHeartbeats 16000000 in
theorem rpairs_b (m : Nat) (L : Bxs) (nl : Bool) (R : Nat → Prop) (w : World) (h : RefAt w m L nl R) : Calls Try.prog 24 #[.pointer (some ⟨m, 0, none⟩)] w fun e w' => (∃ v, e = .returned v ∧ w'.ownsRow w.heap.size 41 2 v (prL L).length (pv (prL L))) ∧ Below w.heap.size w w' := by
  obtain ⟨j0, hj, hy0, hy1, hy2⟩ := info_parts info_pair
  obtain ⟨v1, v2, kt, h1, h2, -, -⟩ := h.mem
  have hlen := h.len
  have hsrt : Hid (Srt L) := h.srt
  have hltt := blk_lt kt
  have h1' := ids_row h1 rfl
  have i1 := fun k (hk : k < (ids L).length) => ints_ix h1' hk
  have i2 := fun k (hk : k < L.length) => bxs_ix h2 hk
  have l1 := fun ty W => row_len u_ints h1 ty W
  have l2 := fun ty W => row_len u_bxs h2 ty W
  obtain ⟨n, hn'⟩ : ∃ n, L.length = n := ⟨_, rfl⟩
  rw [hn'] at hlen l1 l2
  have hn : Hid (L.length = n) := hn'
  have hT : Hid (prT L n = prL L) := by show _ = _; rw [← hn']; exact prT_all L
  have hni : Hid (∀ k, k < n → k < (ids L).length) := show ∀ k, k < n → k < (ids L).length from fun k hk => by rw [List.length_map]; omega
  clear h h1 h2 h1' hn'
  go_enter Try.func24, Try.ntmps24
  go_wp2_with fail
  go_loopw [3, 4] (fun p i wr => ∃ k : Nat, k ≤ n ∧ i = .int .i64 (k : Int) ∧ Hid (wr.ownsRow w.heap.size 41 2 p (prT L k).length (pv (prT L k))) ∧ Below w.heap.size w wr) (fun _ i _ => n - (intOf i).toNat)
  case atStart => exact ⟨0, by omega, rfl, World.ownsRow_nil _ _ _ _, bBel⟩
  case round =>
    obtain ⟨k, hk, rfl, hown, hbR⟩ := hrel
    have hszR := hbR.size
    have ktR := blk_below hbR kt
    have oktR := blk_older ktR
    have cktR_0 : _ = some _ := blk_cell ktR 0
    have cktR_1 : _ = some _ := blk_cell ktR 1
    have cktR_2 : _ = some _ := blk_cell ktR 2
    have fktR_0 := blk_free ktR 0
    have fktR_1 := blk_free ktR 1
    have fktR_2 := blk_free ktR 2
    by_cases hkn : k < n
    · have hki : (k : Int) < (n : Int) := by omega
      have hkL : k < L.length := by have := hn.out; omega
      obtain ⟨g1, -, j1, c1⟩ := i1 k (hni.out k hkn)
      obtain ⟨g2, -, j2, c2⟩ := i2 k hkL
      have hx : Hid ((ids L)[k]'(hni.out k hkn) = L[k].1) := by show _ = _; simp [ids]
      rw [hx.out] at c1
      have hpk : (prT L k).length ≤ 16777216 := by
        have h1 := prT_len L k
        have h2 : k * L.length ≤ 4096 * 4096 := Nat.mul_le_mul (by omega) (by have := hn.out; omega)
        omega
      have hall : Hid (inR L L[k] k n = prs L L[k]) := by show _ = _; rw [← hn.out]; exact inR_all hsrt.out hkL
      have hsuc : Hid (prT L (k + 1) = prT L k ++ prs L L[k]) := prT_succ hkL
      have hst : Hid (inR L L[k] k (k + 1) = []) := inR_start L L[k] k
      have hsn : Hid (∀ j (hj : j < L.length), k + 1 ≤ j → inR L L[k] k (j + 1) = inR L L[k] k j ++ if Bx.ovl L[k].2 L[j].2 then [(L[k].1, L[j].1)] else []) := show ∀ j (hj : j < L.length), k + 1 ≤ j → _ from fun j hj hk => inR_snoc hj hk
      have hil : Hid (∀ j, (inR L L[k] k j).length ≤ L.length) := show ∀ j, (inR L L[k] k j).length ≤ L.length from fun j => inR_len L L[k] k j
      clear hx
      generalize hel : L[k] = el at *
      clear hel
      obtain ⟨ii, a0, a1, a2, a3⟩ := el
      dsimp only at c1 c2
      have hsn : Hid (∀ j (hj : j < L.length), k + 1 ≤ j → inR L ⟨ii, a0, a1, a2, a3⟩ k (j + 1) = inR L ⟨ii, a0, a1, a2, a3⟩ k j ++ if Bx.ovl ⟨a0, a1, a2, a3⟩ L[j].2 then [(ii, L[j].1)] else []) := hsn
      go_upto_region 6 with fail
      go_loopw [3, 5] (fun p i wi => ∃ j : Nat, k + 1 ≤ j ∧ j ≤ n ∧ i = .int .i64 (j : Int) ∧ Hid (wi.ownsRow w.heap.size 41 2 p (prT L k ++ inR L ⟨ii, a0, a1, a2, a3⟩ k j).length (pv (prT L k ++ inR L ⟨ii, a0, a1, a2, a3⟩ k j))) ∧ Below w.heap.size w wi) (fun _ i _ => n - (intOf i).toNat)
      case atStart => exact ⟨k + 1, by omega, by omega, by go_num, (by rw [hst.out, List.append_nil]; exact owns_below hown.out bBel), bBel⟩
      case round =>
        clear hown hbR ktR hszR
        obtain ⟨j, hkj, hjle, rfl, hown, hbR⟩ := hrel
        have hszR := hbR.size
        have ktR := blk_below hbR kt
        have oktR := blk_older ktR
        have cktR_0 : _ = some _ := blk_cell ktR 0
        have cktR_1 : _ = some _ := blk_cell ktR 1
        have cktR_2 : _ = some _ := blk_cell ktR 2
        have fktR_0 := blk_free ktR 0
        have fktR_1 := blk_free ktR 1
        have fktR_2 := blk_free ktR 2
        by_cases hjn : j < n
        · have hji : (j : Int) < (n : Int) := by omega
          have hjL : j < L.length := by have := hn.out; omega
          obtain ⟨g3, -, j3, c3⟩ := i1 j (hni.out j hjn)
          obtain ⟨g4, -, j4, c4⟩ := i2 j hjL
          have hx : Hid ((ids L)[j]'(hni.out j hjn) = L[j].1) := by show _ = _; simp [ids]
          rw [hx.out] at c3
          have hq := hsn.out j hjL hkj
          have hQl : (prT L k ++ inR L ⟨ii, a0, a1, a2, a3⟩ k j).length ≤ 16800000 := by
            rw [List.length_append]
            have := hil.out j
            have := hn.out
            omega
          clear hx
          generalize hel2 : L[j] = el2 at *
          clear hel2
          obtain ⟨jj, b0, b1, b2, b3⟩ := el2
          dsimp only at c3 c4 hq
          obtain ⟨D, hD⟩ : ∃ D, Bx.ovl ⟨a0, a1, a2, a3⟩ ⟨b0, b1, b2, b3⟩ = D := ⟨_, rfl⟩
          rw [hD] at hq
          have cO := fun w' => rxovl_b a0 a1 a2 a3 b0 b1 b2 b3 w'
          rw [show ovl8 a0 a1 a2 a3 b0 b1 b2 b3 = D from hD] at cO
          clear hD
          have hq : Hid (inR L ⟨ii, a0, a1, a2, a3⟩ k (j + 1) = inR L ⟨ii, a0, a1, a2, a3⟩ k j ++ if D then [(ii, jj)] else []) := hq
          obtain ⟨o2, d0, d1, d2, d3⟩ := c2 wr hbR
          obtain ⟨o4, e0, e1, e2, e3⟩ := c4 wr hbR
          cases D
          · clear c1 c2 c3 c4
            go_upto_region 8 with fail
            refine wp_region_gw (by kernel_rfl) (by kernel_rfl) ?_
            repeat (go_big_quiet_step ((first | (go_at_call 47; with_reducible_and_instances exact gw_call (cO _)))))
            refine wpQuiet_nil ?_
            intro w1 hw1
            obtain ⟨q, rfl⟩ := hw1
            go_wp2_with fail
            refine ⟨⟨j + 1, by omega, by omega, by go_num, (by rw [hq.out]; simp only [Bool.false_eq_true, if_false, List.append_nil]; exact owns_below hown.out bBel), bBel⟩, by (try go_num); simp [intOf]; (try omega)⟩
          · clear c2 c4
            go_upto_region 8 with fail
            refine wp_region_gw (by kernel_rfl) (by kernel_rfl) ?_
            repeat (go_big_quiet_step ((first | (go_at_call 47; with_reducible_and_instances exact gw_call (cO _)))))
            refine wpQuiet_nil ?_
            intro w1 hw1
            obtain ⟨q, rfl⟩ := hw1
            go_upto_region 9 with fail
            refine wp_named ?_
            intro Y hY
            have hbY : Below wr.heap.size wr Y := by rw [hY]; exact bBel
            clear hY
            have hbY1 := hbR.trans (hbY.mono hszR)
            have hszY := hbY1.size
            have ktY := blk_below hbY ktR
            obtain ⟨o5, f5⟩ := c1 Y hbY1
            obtain ⟨o6, f6⟩ := c3 Y hbY1
            have ho := owns_below hown.out hbY
            clear hown c1 c3 ktR d0 d1 d2 d3 e0 e1 e2 e3 o2 o4 hbR hbY j2 j4 l1 l2
            have oktY := blk_older ktY
            have cktY_0 : _ = some _ := blk_cell ktY 0
            have cktY_1 : _ = some _ := blk_cell ktY 1
            have cktY_2 : _ = some _ := blk_cell ktY 2
            have fktY_0 := blk_free ktY 0
            have fktY_1 := blk_free ktY 1
            have fktY_2 := blk_free ktY 2
            go_wp2_with fail
            refine wp_mix 17 [0, 0, 2, 6, 14, 0, 62, 126, 0, 256, 768, 1792, 0, 7936, 16128, 32766, 65534] [] [0, 1, 2, 3, 4, 5, 6, 7, 8, 9, 10, 11, 12, 13, 14, 15, 16] (by kernel_rfl) (by kernel_rfl) ?_
            first
              | (repeat (first | (refine mix_skip (by rfl) (by rfl) (by rfl) (by rfl) ?_) | (refine mix_early (by rfl) (by rfl) (by rfl) ?_; go_big_quiet_step (fail); with_reducible refine wpQuiet_nil ?_) | (refine mix_late (by rfl) (by rfl) (by rfl) ?_; go_big_quiet_step (fail); with_reducible refine wpQuiet_nil ?_) | (refine mix_call (by rfl) (by rfl) (by rfl) ?_; intro pM Qs hQs; go_wp2_with fail; refine hQs _ _ bBel ?_)))
              | (repeat (first | (refine mix_skip (by rfl) (by rfl) (by rfl) (by rfl) ?_) | (refine mix_early (by rfl) (by rfl) (by rfl) ?_; go_big_quiet_step (fail); with_reducible refine wpQuiet_nil ?_) | (refine mix_late (by rfl) (by rfl) (by rfl) ?_; go_big_quiet_step (fail); with_reducible refine wpQuiet_nil ?_) | (refine mix_call (by rfl) (by rfl) (by rfl) ?_; intro pM Qs hQs; go_wp2_with fail; refine hQs _ _ bBel ?_)))
            refine mix_make #[.int .i64 ii, .int .i64 jj] 41 (some 1) (by rfl) (by rfl) (by rfl) (by rfl) (fun w => by simp [go_sem, mval]) ?_
            intro b5 wb hbb kb5 hS5
            obtain ⟨qb5, rfl⟩ := gw_of_below hbb
            clear hbb hS5
            simp only [mval]
            first
              | (refine mix_end ?_
                 intro pE
                 simp only [List.drop_succ_cons, List.drop_zero])
              | (refine mix_end ?_
                 intro pE
                 simp only [List.drop_succ_cons, List.drop_zero])
            go_wp2_with (at_builtin; refine wpList_app20 rfl _ _ 36 rfl w.heap.size 41 j0 (.agg #[.int .i64 0, .int .i64 0]) 16 (by kernel_rfl) hj hy0 hy1 hy2 rfl _ _ _ rfl (owns_below ho bBel) _ (.int .i64 ii) (.int .i64 jj) 41 rfl (by show blk _ _ #[.int .i64 ii, .int .i64 jj] _; exact (by apply blk_of; (repeat (first | with_reducible exact kb5 | with_reducible apply blk_drew | with_reducible apply blk_gw | with_reducible apply blk_alloc | with_reducible apply blk_set | ((with_reducible apply blk_other); focus omega))); (first | rfl | simp))) rfl rfl (by unfold maxLen; omega) (by omega) (by first | (simp; omega) | omega) ?_; intro v' w2 hown2 hb2 hg2 ho2)
            refine ⟨⟨j + 1, by omega, by omega, by go_num, (by rw [hq.out]; simp only [if_true]; rw [← List.append_assoc]; exact own_castk hown2 (by simp; omega) (by rw [pv_append20 (prT L k ++ _)]; simp [pv])), Below.trans bBel hb2⟩, by (try go_num); simp [intOf]; (try omega)⟩
        · obtain rfl : j = n := by omega
          rw [hall.out, ← hsuc.out] at hown
          clear i1 i2
          go_wp2_with fail
          refine ⟨⟨k + 1, by omega, by go_num, owns_below hown.out bBel, bBel⟩, by (try go_num); simp [intOf]; (try omega)⟩
    · obtain rfl : k = n := by omega
      rw [hT.out] at hown
      clear i1 i2
      go_wp2_with fail
      go_ret
      exact ⟨⟨_, rfl, owns_below hown.out bBel⟩, bBel⟩

end Go.Proofs.Ytdldlcibjjccpaa
