/- Chapter 20: the reference's Remove and Update. -/
import Derived.Test.YtdldlcibjjccpaaByC
import Derived.Deep.DeepCutAuto
set_option linter.unusedVariables false
set_option linter.unusedSimpArgs false
namespace Go.Proofs.Ytdldlcibjjccpaa
open Go.RowKit Fx

set_option maxRecDepth 100000 in
set_option maxHeartbeats 8000000 in
theorem rrem_no (m : Nat) (L : Bxs) (nl : Bool) (R : Nat → Prop) (i : Int) (K : Nat) (hF : FindAt L i K false) (w : World) (h : RefAt w m L nl R) : Calls Try.prog 42 #[.pointer (some ⟨m, 0, none⟩), .int .i64 i] w fun e w' => e = .returned (.bool false) ∧ Below w.heap.size w w' := by
  have cF := fun w' hh => rfind_b m L nl R i K false hF w' hh
  have h0 := h
  clear h hF
  go_enter Try.func42, Try.ntmps42
  go_wp2_with (go_at_call 59; refine Calls.mono (gw_at (cF _ (h0.below bBel))) ?_; rintro e w1 ⟨rfl, qF, rfl⟩)
  go_ret
  exact ⟨rfl, bBel⟩

set_option maxRecDepth 100000 in
set_option maxHeartbeats 16000000 in
theorem rrem_yes (m : Nat) (L : Bxs) (nl : Bool) (R : Nat → Prop) (i : Int) (K : Nat) (hF : FindAt L i K true) (w : World) (h : RefAt w m L nl R) : Calls Try.prog 42 #[.pointer (some ⟨m, 0, none⟩), .int .i64 i] w fun e w' => e = .returned (.bool true) ∧ TurnsR m (remL L i) nl R w w' := by
  obtain ⟨i0, hi, hz0, hz1, hz2⟩ := info_parts info_int20
  obtain ⟨j0, hj, hy0, hy1, hy2⟩ := info_parts info_bx20
  have cF := fun w' hh => rfind_b m L nl R i K true hF w' hh
  have h0 := h
  obtain ⟨v1, v2, kt, h1, h2, -, -⟩ := h.mem
  have hltt := blk_lt kt
  obtain ⟨n, hn'⟩ : ∃ n, L.length = n := ⟨_, rfl⟩
  obtain ⟨hK, -, -⟩ := hF.lookT h.srt
  have hlt := h.len
  have hJ : Hid (remL L i = L.take K ++ L.drop (K + 1)) := hF.rem h.srt
  have hlen : Hid ((remL L i).length = n - 1) := by show _ = _; rw [hJ.out]; simp; omega
  have hsrt : Hid (Srt (remL L i)) := remL_srt h.srt i
  rw [hn'] at hlt h1 h2 hK
  have hn : Hid (L.length = n) := hn'
  obtain ⟨A1, c1, s1, t1, z1, q1, p1⟩ := own_hi u_ints hi hz1 h1 K (by omega) K rfl
  obtain ⟨A2, c2, s2, t2, z2, q2, p2⟩ := own_lo u_ints hi hz1 h1 (K + 1) hK ((K : Int) + 1) (by omega)
  obtain ⟨A3, c3, s3, t3, z3, q3, p3⟩ := own_hi u_bxs hj hy1 h2 K (by omega) K rfl
  obtain ⟨A4, c4, s4, t4, z4, q4, p4⟩ := own_lo u_bxs hj hy1 h2 (K + 1) hK ((K : Int) + 1) (by omega)
  rw [show (iv (ids L)).take (K * 1) = iv (ids (L.take K)) by simp [iv, ids, List.map_take]] at p1
  rw [show (iv (ids L)).drop ((K + 1) * 1) = iv (ids (L.drop (K + 1))) by simp [iv, ids, List.map_drop]] at p2
  rw [bxv_take] at p3
  rw [bxv_drop] at p4
  have e1 : (iv (ids (L.take K))).length = K * 1 := by simp [iv]; omega
  have e2 : (iv (ids (L.drop (K + 1)))).length = (n - (K + 1)) * 1 := by simp [iv]; omega
  have e3 : (bxv (L.take K)).length = K * 4 := by rw [bxv_len]; simp; omega
  have e4 : (bxv (L.drop (K + 1))).length = (n - (K + 1)) * 4 := by rw [bxv_len]; simp; omega
  have f1 : Hid ([] ++ iv (ids (L.take K)) ++ iv (ids (L.drop (K + 1))) = iv (ids (remL L i))) := by show _ = _; rw [hJ.out]; simp [iv]
  have f2 : Hid ([] ++ bxv (L.take K) ++ bxv (L.drop (K + 1)) = bxv (remL L i)) := by show _ = _; rw [hJ.out]; simp [bxv]
  have g1 := iv_one20 (ids (L.take K))
  have g2 := iv_one20 (ids (L.drop (K + 1)))
  have g3 := bxv_one (L.take K)
  have g4 := bxv_one (L.drop (K + 1))
  generalize iv (ids (L.take K)) = Y1 at *
  generalize iv (ids (L.drop (K + 1))) = Y2 at *
  generalize bxv (L.take K) = Y3 at *
  generalize bxv (L.drop (K + 1)) = Y4 at *
  have sm : Hid (R m) := h.sm
  clear hF h h1 h2 hJ
  have A : Hid (∀ w6 Z r3 r6 B1 B2, Below w.heap.size w w6 → But (fun k => k = m) w6 Z → blk Z m #[r3, r6, .bool nl] 52 → w6.ownsRow B1 3 1 r3 (n - 1) (iv (ids (remL L i))) → w6.ownsRow B2 26 4 r6 (n - 1) (bxv (remL L i)) → w.heap.size ≤ B1 → w.heap.size ≤ B2 → TurnsR m (remL L i) nl R w Z) := show ∀ w6 Z r3 r6 B1 B2, _ from fun w6 Z r3 r6 B1 B2 a1 a2 a3 a4 a5 a6 a7 => turnsR_mk hlen.out sm.out hsrt.out (by rw [hlen.out]; omega) hltt a1 a2 a3 a4 a5 a6 a7
  generalize remL L i = L2 at *
  have f1 : Hid ([] ++ Y1 ++ Y2 = iv (ids L2)) := f1
  clear hlen hsrt sm hn
  have D : Hid (∀ w', Below w.heap.size w w' → blk w' m #[v1, v2, .bool nl] 52) := show ∀ w', Below w.heap.size w w' → blk w' m #[v1, v2, .bool nl] 52 from fun w' hb => blk_below hb kt
  have P1 : Hid (∀ w', Below w.heap.size w w' → Cs w' A1 Y1) := show ∀ w', Below w.heap.size w w' → Cs w' A1 Y1 from fun w' hb => Cs.to p1 hb
  have P2 : Hid (∀ w', Below w.heap.size w w' → Cs w' A2 Y2) := show ∀ w', Below w.heap.size w w' → Cs w' A2 Y2 from fun w' hb => Cs.to p2 hb
  have P3 : Hid (∀ w', Below w.heap.size w w' → Cs w' A3 Y3) := show ∀ w', Below w.heap.size w w' → Cs w' A3 Y3 from fun w' hb => Cs.to p3 hb
  have P4 : Hid (∀ w', Below w.heap.size w w' → Cs w' A4 Y4) := show ∀ w', Below w.heap.size w w' → Cs w' A4 Y4 from fun w' hb => Cs.to p4 hb
  clear p1 p2 p3 p4
  go_enter Try.func42, Try.ntmps42
  go_upto_region 6 with (go_at_call 59; refine Calls.mono (gw_at (cF _ (h0.below bBel))) ?_; rintro e w1 ⟨rfl, qF, rfl⟩)
  refine wp_named ?_
  intro V hVV
  have hbV : Below w.heap.size w V := by rw [hVV]; exact bBel
  clear hVV cF h0
  have ktV := D.out V hbV
  have hzV := hbV.size
  have oktV := blk_older ktV
  have cktV_0 : _ = some _ := blk_cell ktV 0
  have cktV_1 : _ = some _ := blk_cell ktV 1
  have cktV_2 : _ = some _ := blk_cell ktV 2
  have fktV_0 := blk_free ktV 0
  have fktV_1 := blk_free ktV 1
  have fktV_2 := blk_free ktV 2
  go_upto_region 7 with (at_builtin; refine wpList_appE rfl _ _ 30 rfl V.heap.size 3 i0 (.int .i64 0) 1 8 (by kernel_rfl) hi hz0 hz1 hz2 rfl (by decide) _ _ _ rfl (World.ownsRow_nil _ _ _ _) _ _ _ Y1 rfl z1 q1 e1 (P1.out _ hbV) g1 (by unfold maxLen; omega) (by omega) (Nat.le_refl _) ?_; intro r2 w2 o2 b2)
  have zb2 := b2.size
  clear oktV cktV_0 cktV_1 cktV_2 fktV_0 fktV_1 fktV_2
  have hbW2 := hbV.trans (b2.mono hzV)
  have kt2 := D.out w2 hbW2
  have okt2 := blk_older kt2
  have ckt2_0 : _ = some _ := blk_cell kt2 0
  have ckt2_1 : _ = some _ := blk_cell kt2 1
  have ckt2_2 : _ = some _ := blk_cell kt2 2
  have fkt2_0 := blk_free kt2 0
  have fkt2_1 := blk_free kt2 1
  have fkt2_2 := blk_free kt2 2
  go_upto_region 8 with (at_builtin; refine wpList_appE rfl _ _ 30 rfl V.heap.size 3 i0 (.int .i64 0) 1 8 (by kernel_rfl) hi hz0 hz1 hz2 rfl (by decide) _ _ _ rfl o2 _ _ _ Y2 rfl z2 q2 e2 (P2.out _ hbW2) g2 (by unfold maxLen; omega) (by omega) zb2 ?_; intro r3 w3 o3 b3')
  have b3 : Below V.heap.size V w3 := Below.trans b2 b3'
  have zb3 := b3.size
  have O1 := own_castk o3 (show 0 + K + (n - (K + 1)) = n - 1 by omega) f1.out
  clear b3' o2 b2 zb2 okt2 ckt2_0 ckt2_1 ckt2_2 fkt2_0 fkt2_1 fkt2_2 kt2 hbW2 o3
  have hbW3 := hbV.trans (b3.mono hzV)
  have kt3 := D.out w3 hbW3
  clear b3 ktV
  generalize hB1 : V.heap.size = B1 at *
  have hB1 : w.heap.size ≤ B1 := hzV
  have okt3 := blk_older kt3
  have ckt3_0 : _ = some _ := blk_cell kt3 0
  have ckt3_1 : _ = some _ := blk_cell kt3 1
  have ckt3_2 : _ = some _ := blk_cell kt3 2
  have fkt3_0 := blk_free kt3 0
  have fkt3_1 := blk_free kt3 1
  have fkt3_2 := blk_free kt3 2
  go_upto_region 9 with (at_builtin; refine wpList_appE rfl _ _ 50 rfl w3.heap.size 26 j0 (.agg #[.int .i64 0, .int .i64 0, .int .i64 0, .int .i64 0]) 4 32 (by kernel_rfl) hj hy0 hy1 hy2 rfl (by decide) _ _ _ rfl (World.ownsRow_nil _ _ _ _) _ _ _ Y3 rfl z3 q3 e3 (P3.out _ hbW3) g3 (by unfold maxLen; omega) (by omega) (Nat.le_refl _) ?_; intro r5 w5 o5 b5)
  have zb5 := b5.size
  clear okt3 ckt3_0 ckt3_1 ckt3_2 fkt3_0 fkt3_1 fkt3_2 kt3
  have hzw3 := hbW3.size
  have hbW5 := hbW3.trans (b5.mono hzw3)
  have kt5 := D.out w5 hbW5
  have okt5 := blk_older kt5
  have ckt5_0 : _ = some _ := blk_cell kt5 0
  have ckt5_1 : _ = some _ := blk_cell kt5 1
  have ckt5_2 : _ = some _ := blk_cell kt5 2
  have fkt5_0 := blk_free kt5 0
  have fkt5_1 := blk_free kt5 1
  have fkt5_2 := blk_free kt5 2
  go_upto_region 10 with (at_builtin; refine wpList_appE rfl _ _ 50 rfl w3.heap.size 26 j0 (.agg #[.int .i64 0, .int .i64 0, .int .i64 0, .int .i64 0]) 4 32 (by kernel_rfl) hj hy0 hy1 hy2 rfl (by decide) _ _ _ rfl o5 _ _ _ Y4 rfl z4 q4 e4 (P4.out _ hbW5) g4 (by unfold maxLen; omega) (by omega) zb5 ?_; intro r6 w6 o6 b6')
  have b6 : Below w3.heap.size w3 w6 := Below.trans b5 b6'
  have zb6 := b6.size
  have O2 := own_castk o6 (show 0 + K + (n - (K + 1)) = n - 1 by omega) f2.out
  have O1 := owns_below O1 b6
  clear b6' o5 b5 zb5 okt5 ckt5_0 ckt5_1 ckt5_2 fkt5_0 fkt5_1 fkt5_2 kt5 hbW5 o6
  have hbW6 := hbW3.trans (b6.mono hzw3)
  have kt6 := D.out w6 hbW6
  obtain ⟨a1, d1, rfl⟩ := own_lit O1
  obtain ⟨a2, d2, rfl⟩ := own_lit O2
  have okt6 := blk_older kt6
  have ckt6_0 : _ = some _ := blk_cell kt6 0
  have ckt6_1 : _ = some _ := blk_cell kt6 1
  have ckt6_2 : _ = some _ := blk_cell kt6 2
  have fkt6_0 := blk_free kt6 0
  have fkt6_1 := blk_free kt6 1
  have fkt6_2 := blk_free kt6 2
  go_wp2_with fail
  refine post_nm20 ?_
  intro Z hZ
  have kZ : blk Z m #[.slice a1 (n - 1) d1, .slice a2 (n - 1) d2, .bool nl] 52 := by rw [hZ]; exact (by apply blk_of; (repeat (first | with_reducible apply blk_set | with_reducible apply blk_gw | with_reducible apply blk_drew | with_reducible apply blk_alloc | with_reducible exact kt6 | with_reducible exact blk_new _ _ _ | ((with_reducible refine blk_at ?_); (simp; done)))); (first | rfl | simp))
  have hBZ : But (fun k => k = m) w6 Z := by rw [hZ]; exact bBut
  clear hZ
  exact bodyPost_ret (v := .bool true) (by simp [results, Try.results42, go_sem]) rfl ⟨rfl, A.out _ _ _ _ _ _ hbW6 hBZ kZ O1 O2 hB1 hzw3⟩

theorem rremove_b (m : Nat) (L : Bxs) (nl : Bool) (R : Nat → Prop) (i : Int) (w : World) (h : RefAt w m L nl R) : Calls Try.prog 42 #[.pointer (some ⟨m, 0, none⟩), .int .i64 i] w fun e w' => e = .returned (.bool (look L i).isSome) ∧ TurnsR m (remL L i) nl R w w' := by
  obtain ⟨K, f, hF⟩ := find_ex L i
  rw [hF.bool h.srt]
  cases f
  · rw [remL_none (hF.lookF h.srt)]
    exact (rrem_no m L nl R i K hF w h).mono fun e w' ⟨h1, h2⟩ => ⟨h1, TurnsR.same h h2⟩
  · exact rrem_yes m L nl R i K hF w h
theorem rinsert_b (m : Nat) (L : Bxs) (R : Nat → Prop) (i x0 y0 x1 y1 : Int) (w : World) (h : RefAt w m L false R) : Calls Try.prog 41 #[.pointer (some ⟨m, 0, none⟩), .int .i64 i, .agg #[.int .i64 x0, .int .i64 y0, .int .i64 x1, .int .i64 y1]] w fun e w' => e = .returned (.int .i64 (insC L i ⟨x0, y0, x1, y1⟩)) ∧ TurnsR m (insT L i ⟨x0, y0, x1, y1⟩) false R w w' := by
  obtain ⟨K, f, hF⟩ := find_ex L i
  have hb := hF.bool h.srt
  have no : ∀ c, c ≠ 0 → insC L i ⟨x0, y0, x1, y1⟩ = c → (∀ V, val4 x0 y0 x1 y1 = V → (V = false ∧ c = 2) ∨ (V = true ∧ f = true ∧ c = 7) ∨ (V = true ∧ f = false ∧ L.length = 4096 ∧ c = 9)) → Calls Try.prog 41 #[.pointer (some ⟨m, 0, none⟩), .int .i64 i, .agg #[.int .i64 x0, .int .i64 y0, .int .i64 x1, .int .i64 y1]] w fun e w' => e = .returned (.int .i64 (insC L i ⟨x0, y0, x1, y1⟩)) ∧ TurnsR m (insT L i ⟨x0, y0, x1, y1⟩) false R w w' := fun c hc he hV => by
    rw [show insT L i ⟨x0, y0, x1, y1⟩ = L by unfold insT; rw [he, if_neg hc], he]
    exact (rins_no m L R i x0 y0 x1 y1 K f _ c hF rfl w h (hV _ rfl)).mono fun e w' ⟨h1, h2⟩ => ⟨h1, TurnsR.same h h2⟩
  rcases insC_case L i x0 y0 x1 y1 h.len with ⟨h1, h2⟩ | ⟨h1, h2, h3⟩ | ⟨h1, h2, h3, h4⟩ | ⟨h1, h2, h3, h4⟩
  · exact no 2 (by decide) h2 fun V e => .inl ⟨by rw [← e, h1], rfl⟩
  · exact no 7 (by decide) h3 fun V e => .inr (.inl ⟨by rw [← e, h1], by rw [← hb, h2], rfl⟩)
  · exact no 9 (by decide) h4 fun V e => .inr (.inr ⟨by rw [← e, h1], by rw [← hb, h2], h3, rfl⟩)
  · rw [insT_ok h4, h4]
    rw [h2] at hb
    subst hb
    exact rins_yes m L R i x0 y0 x1 y1 K hF h1 h3 w h

set_option maxRecDepth 100000 in
set_option maxHeartbeats 8000000 in
theorem rinsert1_b (m : Nat) (L : Bxs) (R : Nat → Prop) (i x0 y0 x1 y1 : Int) (w : World) (h : RefAt w m L true R) : Calls Try.prog 41 #[.pointer (some ⟨m, 0, none⟩), .int .i64 i, .agg #[.int .i64 x0, .int .i64 y0, .int .i64 x1, .int .i64 y1]] w fun e w' => e = .returned (.int .i64 1) ∧ Below w.heap.size w w' := by
  obtain ⟨v1, v2, kt, -, -, -, -⟩ := h.mem
  clear h
  have hltt := blk_lt kt
  go_enter Try.func41, Try.ntmps41
  go_upto_region 1 with fail
  refine wp_named ?_
  intro X hX
  have hbX : Below w.heap.size w X := by rw [hX]; exact bBel
  clear hX
  have ktX := blk_below hbX kt
  have hzX := hbX.size
  have oktX := blk_older ktX
  have cktX_0 : _ = some _ := blk_cell ktX 0
  have cktX_1 : _ = some _ := blk_cell ktX 1
  have cktX_2 : _ = some _ := blk_cell ktX 2
  have fktX_0 := blk_free ktX 0
  have fktX_1 := blk_free ktX 1
  have fktX_2 := blk_free ktX 2
  go_wp2_with fail
  go_ret
  exact ⟨rfl, bBel⟩

set_option maxRecDepth 100000 in
set_option maxHeartbeats 8000000 in
theorem rupdate1_b (m : Nat) (L : Bxs) (R : Nat → Prop) (i x0 y0 x1 y1 : Int) (w : World) (h : RefAt w m L true R) : Calls Try.prog 43 #[.pointer (some ⟨m, 0, none⟩), .int .i64 i, .agg #[.int .i64 x0, .int .i64 y0, .int .i64 x1, .int .i64 y1]] w fun e w' => e = .returned (.int .i64 1) ∧ Below w.heap.size w w' := by
  obtain ⟨v1, v2, kt, -, -, -, -⟩ := h.mem
  clear h
  have hltt := blk_lt kt
  go_enter Try.func43, Try.ntmps43
  go_upto_region 1 with fail
  refine wp_named ?_
  intro X hX
  have hbX : Below w.heap.size w X := by rw [hX]; exact bBel
  clear hX
  have ktX := blk_below hbX kt
  have hzX := hbX.size
  have oktX := blk_older ktX
  have cktX_0 : _ = some _ := blk_cell ktX 0
  have cktX_1 : _ = some _ := blk_cell ktX 1
  have cktX_2 : _ = some _ := blk_cell ktX 2
  have fktX_0 := blk_free ktX 0
  have fktX_1 := blk_free ktX 1
  have fktX_2 := blk_free ktX 2
  go_wp2_with fail
  go_ret
  exact ⟨rfl, bBel⟩

theorem upd_ins {L : Bxs} {i : Int} {x : Bx} (hs : Srt L) (hl : L.length ≤ 4096) (hv : x.val = true) (hk : (look L i).isSome = true) : insC (remL L i) i x = 0 ∧ updC L i x = 0 ∧ insT (remL L i) i x = updT L i x := by
  obtain ⟨y, hy⟩ := Option.isSome_iff_exists.1 hk
  have hm := (look_some hs).1 hy
  have hp := (remL_perm hs hm).length_eq
  have hn : look (remL L i) i = none := look_none.2 fun e he => (mem_remL.1 he).2
  have h1 : insC (remL L i) i x = 0 := insC_ok hv hn (by simp at hp; omega)
  have h2 : updC L i x = 0 := by simp [updC, hv, hk]
  exact ⟨h1, h2, by rw [insT_ok h1]; unfold updT; rw [if_pos h2]⟩

set_option maxRecDepth 100000 in
set_option maxHeartbeats 8000000 in
theorem rupdate_b (m : Nat) (L : Bxs) (R : Nat → Prop) (i x0 y0 x1 y1 : Int) (w : World) (h : RefAt w m L false R) : Calls Try.prog 43 #[.pointer (some ⟨m, 0, none⟩), .int .i64 i, .agg #[.int .i64 x0, .int .i64 y0, .int .i64 x1, .int .i64 y1]] w fun e w' => e = .returned (.int .i64 (updC L i ⟨x0, y0, x1, y1⟩)) ∧ TurnsR m (updT L i ⟨x0, y0, x1, y1⟩) false R w w' := by
  have cV := fun w' => rxval_b x0 y0 x1 y1 w'
  have cR := fun w' hh => rremove_b m L false R i w' hh
  obtain ⟨v1, v2, kt, -, -, -, -⟩ := h.mem
  have hltt := blk_lt kt
  cases hV : val4 x0 y0 x1 y1
  · rw [hV] at cV
    have e1 : updC L i ⟨x0, y0, x1, y1⟩ = 2 := by unfold updC; rw [val4_eq, hV]; rfl
    have e2 : updT L i ⟨x0, y0, x1, y1⟩ = L := by unfold updT; rw [e1]; rfl
    rw [e1, e2]
    have A : Hid (∀ w', Below w.heap.size w w' → TurnsR m L false R w w') := show ∀ w', Below w.heap.size w w' → TurnsR m L false R w w' from fun w' hb => TurnsR.same h hb
    clear e1 e2 hV cR h
    go_enter Try.func43, Try.ntmps43
    go_upto_region 1 with fail
    refine wp_named ?_
    intro X hX
    have hbX : Below w.heap.size w X := by rw [hX]; exact bBel
    have kq : blk X w.heap.size #[.int .i64 x0, .int .i64 y0, .int .i64 x1, .int .i64 y1] 26 := by rw [hX]; exact bBkn
    clear hX
    have ktX := blk_below hbX kt
    have hzX := hbX.size
    have oktX := blk_older ktX
    have cktX_0 : _ = some _ := blk_cell ktX 0
    have cktX_1 : _ = some _ := blk_cell ktX 1
    have cktX_2 : _ = some _ := blk_cell ktX 2
    have fktX_0 := blk_free ktX 0
    have fktX_1 := blk_free ktX 1
    have fktX_2 := blk_free ktX 2
    have okq := blk_older kq
    have ckq_0 : _ = some _ := blk_cell kq 0
    have ckq_1 : _ = some _ := blk_cell kq 1
    have ckq_2 : _ = some _ := blk_cell kq 2
    have ckq_3 : _ = some _ := blk_cell kq 3
    have fkq_0 := blk_free kq 0
    have fkq_1 := blk_free kq 1
    have fkq_2 := blk_free kq 2
    have fkq_3 := blk_free kq 3
    go_wp2_with (go_at_call 60; refine Calls.mono (gw_at (cV _)) ?_; rintro e w1 ⟨rfl, qV, rfl⟩)
    go_ret
    exact ⟨rfl, A.out _ bBel⟩
  · rw [hV] at cV
    have hRm := h.lt m h.sm
    go_enter Try.func43, Try.ntmps43
    go_upto_region 1 with fail
    refine wp_named ?_
    intro X hX
    have hbX : Below w.heap.size w X := by rw [hX]; exact bBel
    have kq : blk X w.heap.size #[.int .i64 x0, .int .i64 y0, .int .i64 x1, .int .i64 y1] 26 := by rw [hX]; exact bBkn
    clear hX
    have ktX := blk_below hbX kt
    have hzX := hbX.size
    have oktX := blk_older ktX
    have cktX_0 : _ = some _ := blk_cell ktX 0
    have cktX_1 : _ = some _ := blk_cell ktX 1
    have cktX_2 : _ = some _ := blk_cell ktX 2
    have fktX_0 := blk_free ktX 0
    have fktX_1 := blk_free ktX 1
    have fktX_2 := blk_free ktX 2
    have okq := blk_older kq
    have ckq_0 : _ = some _ := blk_cell kq 0
    have ckq_1 : _ = some _ := blk_cell kq 1
    have ckq_2 : _ = some _ := blk_cell kq 2
    have ckq_3 : _ = some _ := blk_cell kq 3
    have fkq_0 := blk_free kq 0
    have fkq_1 := blk_free kq 1
    have fkq_2 := blk_free kq 2
    have fkq_3 := blk_free kq 3
    go_upto_region 5 with (go_at_call 60; refine Calls.mono (gw_at (cV _)) ?_; rintro e w1 ⟨rfl, qV, rfl⟩)
    refine wp_named ?_
    intro Y hY
    have hbY : Below w.heap.size w Y := by rw [hY]; exact bBel
    have kqY : blk Y w.heap.size #[.int .i64 x0, .int .i64 y0, .int .i64 x1, .int .i64 y1] 26 := by rw [hY]; exact (by apply blk_of; (repeat (first | with_reducible exact kq | with_reducible apply blk_drew | with_reducible apply blk_gw | with_reducible apply blk_alloc | with_reducible apply blk_set | ((with_reducible apply blk_other); focus omega))); (first | rfl | simp))
    clear hY cV hbX kq ktX hzX oktX cktX_0 cktX_1 cktX_2 fktX_0 fktX_1 fktX_2 okq ckq_0 ckq_1 ckq_2 ckq_3 fkq_0 fkq_1 fkq_2 fkq_3
    have hzY := hbY.size
    have hRY := h.below hbY
    have cR := cR Y hRY
    have hltR : Hid (∀ k, R k → k < w.heap.size) := show ∀ k, R k → k < w.heap.size from h.lt
    cases hk : (look L i).isSome
    · have e1 : updC L i ⟨x0, y0, x1, y1⟩ = 8 := by unfold updC; rw [val4_eq, hV, hk]; rfl
      have e2 : updT L i ⟨x0, y0, x1, y1⟩ = L := by unfold updT; rw [e1]; rfl
      have e3 : remL L i = L := remL_none (by cases hq : look L i <;> simp [hq] at hk; rfl)
      rw [hk, e3] at cR
      have hA : Hid (∀ X R', RefAt X m L false R' → But R Y X → (∀ k, R' k → R k ∨ Y.heap.size ≤ k) → ∀ w', Below X.heap.size X w' → updC L i ⟨x0, y0, x1, y1⟩ = 8 ∧ TurnsR m (updT L i ⟨x0, y0, x1, y1⟩) false R w w') := show ∀ X R', _ from fun X R' a1 a2 a3 w' hb => ⟨e1, by rw [e2]; exact ⟨R', a1.below hb, ((But.ofBelow hbY R).trans a2 fun _ _ h => h).trans (But.ofBelow hb R) fun _ _ h => h, fun k hk => (a3 k hk).imp id fun h => by omega⟩⟩
      clear e1 e2 e3 hk hV
      go_wp2_with (go_at_call 42; refine Calls.mono cR ?_; rintro e X ⟨rfl, R', a1, a2, a3⟩)
      go_ret
      obtain ⟨q1, q2⟩ := hA.out X R' a1 a2 a3 _ bBel
      exact ⟨by rw [q1]; rfl, q2⟩
    · obtain ⟨e1, e2, e3⟩ := upd_ins (x := ⟨x0, y0, x1, y1⟩) h.srt h.len (by rw [val4_eq, hV]) hk
      rw [hk] at cR
      have cI := fun X R' hh => rinsert_b m (remL L i) R' i x0 y0 x1 y1 X hh
      rw [e1, e3] at cI
      have hA : Hid (∀ X R', But R Y X → (∀ k, R' k → R k ∨ Y.heap.size ≤ k) → ∀ U, TurnsR m (updT L i ⟨x0, y0, x1, y1⟩) false R' X U → updC L i ⟨x0, y0, x1, y1⟩ = 0 ∧ TurnsR m (updT L i ⟨x0, y0, x1, y1⟩) false R w U) := show ∀ X R', _ from fun X R' a2 a3 U ht => by
        obtain ⟨R2, b1, b2, b3⟩ := ht
        have hz := a2.size
        refine ⟨e2, R2, b1, ((But.ofBelow hbY R).trans a2 fun _ _ h => h).trans b2 fun k hk h => ?_, fun k hk => ?_⟩
        · rcases a3 k h with h | h
          · exact h
          · omega
        · rcases b3 k hk with h | h
          · exact (a3 k h).imp id fun h => by omega
          · exact .inr (by omega)
      clear e1 e2 e3 hk hV
      go_upto_region 7 with (go_at_call 42; refine Calls.mono cR ?_; rintro e X ⟨rfl, R', a1, a2, a3⟩)
      have kqX := a2.blk kqY (fun hh => by have := hltR.out _ hh; omega)
      have cI := cI X R' a1
      have hA := hA.out X R' a2 a3
      have hA : Hid (∀ U, TurnsR m (updT L i ⟨x0, y0, x1, y1⟩) false R' X U → updC L i ⟨x0, y0, x1, y1⟩ = 0 ∧ TurnsR m (updT L i ⟨x0, y0, x1, y1⟩) false R w U) := hA
      clear a1 a2 a3 cR
      have okqX := blk_older kqX
      have ckqX_0 : _ = some _ := blk_cell kqX 0
      have ckqX_1 : _ = some _ := blk_cell kqX 1
      have ckqX_2 : _ = some _ := blk_cell kqX 2
      have ckqX_3 : _ = some _ := blk_cell kqX 3
      have fkqX_0 := blk_free kqX 0
      have fkqX_1 := blk_free kqX 1
      have fkqX_2 := blk_free kqX 2
      have fkqX_3 := blk_free kqX 3
      go_wp2_with (go_at_call 41; refine Calls.mono cI ?_; rintro e U ⟨rfl, hT⟩)
      go_ret
      obtain ⟨q1, q2⟩ := hA.out U hT
      exact ⟨by rw [q1]; rfl, q2⟩

end Go.Proofs.Ytdldlcibjjccpaa
