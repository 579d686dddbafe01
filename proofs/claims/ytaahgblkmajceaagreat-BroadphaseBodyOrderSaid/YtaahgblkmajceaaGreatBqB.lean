/- Chapter 22: the program's filtering, joints, keys. -/
import Derived.Test.YtaahgblkmajceaaGreatBpA
import Derived.Test.YtaahgblkmajceaaGreatSpB
set_option linter.unusedVariables false
set_option linter.unusedSimpArgs false
namespace Go.Proofs.YtaahgblkmajceaaGreat
open Go.RowKit Fx

set_option maxRecDepth 100000 in
set_option maxHeartbeats 8000000 in
theorem shc_b (f g : Fxr) (w : World) : Calls Tryz.prog 17 #[.agg (fxc f).toArray, .agg (fxc g).toArray] w fun e w' => e = .returned (.bool (shc f.grp f.cat f.msk g.grp g.cat g.msk)) ∧ Below w.heap.size w w' := by
  obtain ⟨K, R, A, cap, ps, fD, fF, fE, sen, c1, m1, g1⟩ := f
  obtain ⟨K2, R2, A2, cap2, qs, fD2, fF2, fE2, sen2, c2, m2, g2⟩ := g
  dsimp only
  obtain ⟨D, hD⟩ : ∃ D, Hid (shc g1 c1 m1 g2 c2 m2 = D) := ⟨_, rfl⟩
  rw [hD.out]
  show Calls _ _ #[.agg #[.int .i64 K, .int .i64 R, .slice A ps.length cap, .int .i64 fD, .int .i64 fF, .int .i64 fE, .bool sen, .int .i64 c1, .int .i64 m1, .int .i64 g1], .agg #[.int .i64 K2, .int .i64 R2, .slice A2 qs.length cap2, .int .i64 fD2, .int .i64 fF2, .int .i64 fE2, .bool sen2, .int .i64 c2, .int .i64 m2, .int .i64 g2]] _ _
  go_enter Tryz.func17, Tryz.ntmps17
  go_upto_region 1 with fail
  refine wp_named ?_
  intro V hV
  have kA : blk V w.heap.size #[.int .i64 K, .int .i64 R, .slice A ps.length cap, .int .i64 fD, .int .i64 fF, .int .i64 fE, .bool sen, .int .i64 c1, .int .i64 m1, .int .i64 g1] 57 := by rw [hV]; exact bBkn
  have kB : blk V (w.heap.size + 1) #[.int .i64 K2, .int .i64 R2, .slice A2 qs.length cap2, .int .i64 fD2, .int .i64 fF2, .int .i64 fE2, .bool sen2, .int .i64 c2, .int .i64 m2, .int .i64 g2] 57 := by rw [hV]; exact bBkn
  have hbV : Below w.heap.size w V := by rw [hV]; exact bBel
  clear hV
  have okA := blk_older kA
  have ckA_0 : _ = some _ := blk_cell kA 0
  have ckA_1 : _ = some _ := blk_cell kA 1
  have ckA_2 : _ = some _ := blk_cell kA 2
  have ckA_3 : _ = some _ := blk_cell kA 3
  have ckA_4 : _ = some _ := blk_cell kA 4
  have ckA_5 : _ = some _ := blk_cell kA 5
  have ckA_6 : _ = some _ := blk_cell kA 6
  have ckA_7 : _ = some _ := blk_cell kA 7
  have ckA_8 : _ = some _ := blk_cell kA 8
  have ckA_9 : _ = some _ := blk_cell kA 9
  have fkA_0 := blk_free kA 0
  have fkA_1 := blk_free kA 1
  have fkA_2 := blk_free kA 2
  have fkA_3 := blk_free kA 3
  have fkA_4 := blk_free kA 4
  have fkA_5 := blk_free kA 5
  have fkA_6 := blk_free kA 6
  have fkA_7 := blk_free kA 7
  have fkA_8 := blk_free kA 8
  have fkA_9 := blk_free kA 9
  have okB := blk_older kB
  have ckB_0 : _ = some _ := blk_cell kB 0
  have ckB_1 : _ = some _ := blk_cell kB 1
  have ckB_2 : _ = some _ := blk_cell kB 2
  have ckB_3 : _ = some _ := blk_cell kB 3
  have ckB_4 : _ = some _ := blk_cell kB 4
  have ckB_5 : _ = some _ := blk_cell kB 5
  have ckB_6 : _ = some _ := blk_cell kB 6
  have ckB_7 : _ = some _ := blk_cell kB 7
  have ckB_8 : _ = some _ := blk_cell kB 8
  have ckB_9 : _ = some _ := blk_cell kB 9
  have fkB_0 := blk_free kB 0
  have fkB_1 := blk_free kB 1
  have fkB_2 := blk_free kB 2
  have fkB_3 := blk_free kB 3
  have fkB_4 := blk_free kB 4
  have fkB_5 := blk_free kB 5
  have fkB_6 := blk_free kB 6
  have fkB_7 := blk_free kB 7
  have fkB_8 := blk_free kB 8
  have fkB_9 := blk_free kB 9
  by_cases h1 : g1 = g2
  · have d1 : (g1 == g2) = true := by rw [beq_iff_eq]; exact h1
    by_cases h2 : g1 = 0
    · have d2 : (g1 != 0) = false := by rw [bne_eq_false_iff_eq]; exact h2
      have hE : Hid (D = ((bits .and .i64 c1 m2 != 0) && (bits .and .i64 c2 m1 != 0))) := by show _ = _; rw [← hD.out]; unfold shc; rw [if_neg (fun h => h.2 h2)]
      clear h1 h2
      generalize hx : (bits .and .i64 c1 m2 != 0) = x at *
      cases x
      all_goals
        simp only [Bool.true_and, Bool.false_and] at hE
        obtain rfl := hE.out
        go_wp2_with fail
        go_ret
        exact ⟨rfl, bBel⟩
    · have d2 : (g1 != 0) = true := by rw [bne_iff_ne]; exact h2
      have hE : Hid (D = decide (0 < g1)) := by show _ = _; rw [← hD.out]; unfold shc; rw [if_pos ⟨h1, h2⟩]
      clear h1 h2
      obtain rfl := hE.out
      go_wp2_with fail
      go_ret
      exact ⟨rfl, bBel⟩
  · have d1 : (g1 == g2) = false := by rw [beq_eq_false_iff_ne]; exact h1
    have hE : Hid (D = ((bits .and .i64 c1 m2 != 0) && (bits .and .i64 c2 m1 != 0))) := by show _ = _; rw [← hD.out]; unfold shc; rw [if_neg (fun h => h1 h.1)]
    clear h1
    generalize hx : (bits .and .i64 c1 m2 != 0) = x at *
    cases x
    all_goals
      simp only [Bool.true_and, Bool.false_and] at hE
      obtain rfl := hE.out
      go_wp2_with fail
      go_ret
      exact ⟨rfl, bBel⟩

set_option maxRecDepth 100000 in
set_option maxHeartbeats 16000000 in
theorem cnj_b (A : Option Addr) (cap : Nat) (l : List Jnt) (a b : Int) (hl : l.length ≤ 1000000) (w : World) (h : Jnts w A l) : Calls Tryz.prog 16 #[.slice A l.length cap, .int .i64 a, .int .i64 b] w fun e w' => e = .returned (.bool (cnj l a b)) ∧ Below w.heap.size w w' := by
  obtain ⟨D, hD'⟩ : ∃ D, Hid (cnj l a b = D) := ⟨_, rfl⟩
  rw [hD'.out]
  go_enter Tryz.func16, Tryz.ntmps16
  go_wp2_with fail
  go_loopw [11] (fun j wr => ∃ k : Nat, k ≤ l.length ∧ j = .int .i64 (k : Int) ∧ Hid (cnj (l.take k) a b = false) ∧ Below w.heap.size w wr) (fun j _ => l.length - (intOf j).toNat)
  case atStart => exact ⟨0, by omega, rfl, (by show _ = _; simp [cnj]), Below.refl _ _⟩
  case round =>
    obtain ⟨k, hk, rfl, hno, hb⟩ := hrel
    have hszR := hb.size
    by_cases hlt : k < l.length
    · obtain ⟨bl, off, rfl, hbl, hc0⟩ := jnts_open h (by omega)
      obtain ⟨-, hr⟩ := hc0 k hlt
      obtain ⟨o, hr⟩ := hr wr hb
      have hst : Hid (cnj (l.take (k + 1)) a b = (cnj (l.take k) a b || (!l[k].cc && (l[k].a == a && l[k].b == b || l[k].a == b && l[k].b == a)))) := by
        show _ = _
        rw [← List.take_append_getElem hlt]; unfold cnj; rw [List.any_append]; simp
      have hmem : Hid ((!l[k].cc && (l[k].a == a && l[k].b == b || l[k].a == b && l[k].b == a)) = true → D = true) := fun h2 => by
        rw [← hD'.out]; unfold cnj
        exact List.any_eq_true.2 ⟨l[k], List.getElem_mem hlt, h2⟩
      rw [show cnj (l.take k) a b = false from hno.out, Bool.false_or] at hst
      clear hc0 hno
      generalize l[k] = f at *
      obtain ⟨ji, jk, ja, jb, ax, ay, bx, b_y, ux, uy, ra, el, lo, up, em, ms, mf, sf, br, cc, m0, m1, m2, m3⟩ := f
      dsimp only at hst hmem
      have hr' : Hid (wr.rangeAt bl (off + k * 24) [.int .i64 ji, .int .i64 jk, .int .i64 ja, .int .i64 jb, .int .i64 ax, .int .i64 ay, .int .i64 bx, .int .i64 b_y, .int .i64 ux, .int .i64 uy, .int .i64 ra, .bool el, .int .i64 lo, .int .i64 up, .bool em, .int .i64 ms, .int .i64 mf, .int .i64 sf, .int .i64 br, .bool cc, .int .i64 m0, .int .i64 m1, .int .i64 m2, .int .i64 m3]) := hr
      clear hr
      go_upto_region 4 with (first
        | (refine wpList_load_mid rfl 89 _ rfl bl (off + k * 24) rfl _ _ hr'.out Tryz.underlying89 rfl (by kernel_rfl) ?_)
        | (refine wpList_store_wide rfl 89 _ _ rfl wr.heap.size [.int .i64 ji, .int .i64 jk, .int .i64 ja, .int .i64 jb, .int .i64 ax, .int .i64 ay, .int .i64 bx, .int .i64 b_y, .int .i64 ux, .int .i64 uy, .int .i64 ra, .bool el, .int .i64 lo, .int .i64 up, .bool em, .int .i64 ms, .int .i64 mf, .int .i64 sf, .int .i64 br, .bool cc, .int .i64 m0, .int .i64 m1, .int .i64 m2, .int .i64 m3] rfl rfl _ _ bBkn (by kernel_rfl) (by kernel_rfl) (by kernel_rfl) ?_; intro V kV hbV koV hzV))
      have q2 : V.cell? ⟨wr.heap.size, 2, none⟩ = some (.int .i64 ja) := blk_cell kV 2
      have q3 : V.cell? ⟨wr.heap.size, 3, none⟩ = some (.int .i64 jb) := blk_cell kV 3
      have q19 : V.cell? ⟨wr.heap.size, 19, none⟩ = some (.bool cc) := blk_cell kV 19
      have oV : older wr.heap.size V = true := blk_older kV
      have hbwV : Below w.heap.size w V := hbV _ _ hszR bBel
      clear hbV koV kV hzV hr' o
      cases cc
      · cases e1 : (ja == a)
        · cases e3 : (ja == b)
          · have hn : Hid (cnj (l.take (k + 1)) a b = false) := by show _ = _; rw [hst.out]; simp [e1, e3]
            clear hmem hst
            go_wp2_with fail
            exact ⟨⟨k + 1, by omega, by go_num, hn, bBel⟩, by (try go_num); simp [intOf]; (try omega)⟩
          · cases e4 : (jb == a)
            · have hn : Hid (cnj (l.take (k + 1)) a b = false) := by show _ = _; rw [hst.out]; simp [e1, e3, e4]
              clear hmem hst
              go_wp2_with fail
              exact ⟨⟨k + 1, by omega, by go_num, hn, bBel⟩, by (try go_num); simp [intOf]; (try omega)⟩
            · obtain rfl := hmem.out (by simp [e1, e3, e4])
              clear hmem hst
              go_wp2_with fail
              go_ret
              exact ⟨rfl, bBel⟩
        · cases e2 : (jb == b)
          · cases e3 : (ja == b)
            · have hn : Hid (cnj (l.take (k + 1)) a b = false) := by show _ = _; rw [hst.out]; simp [e1, e2, e3]
              clear hmem hst
              go_wp2_with fail
              exact ⟨⟨k + 1, by omega, by go_num, hn, bBel⟩, by (try go_num); simp [intOf]; (try omega)⟩
            · cases e4 : (jb == a)
              · have hn : Hid (cnj (l.take (k + 1)) a b = false) := by show _ = _; rw [hst.out]; simp [e1, e2, e3, e4]
                clear hmem hst
                go_wp2_with fail
                exact ⟨⟨k + 1, by omega, by go_num, hn, bBel⟩, by (try go_num); simp [intOf]; (try omega)⟩
              · obtain rfl := hmem.out (by simp [e1, e2, e3, e4])
                clear hmem hst
                go_wp2_with fail
                go_ret
                exact ⟨rfl, bBel⟩
          · obtain rfl := hmem.out (by simp [e1, e2])
            clear hmem hst
            go_wp2_with fail
            go_ret
            exact ⟨rfl, bBel⟩
      · have hn : Hid (cnj (l.take (k + 1)) a b = false) := by show _ = _; rw [hst.out]; simp [Bool.not_true]
        clear hmem hst
        go_wp2_with fail
        exact ⟨⟨k + 1, by omega, by go_num, hn, bBel⟩, by (try go_num); simp [intOf]; (try omega)⟩
    · obtain rfl : k = l.length := by omega
      obtain rfl : D = false := by
        rw [← hD'.out]; have := hno.out; rw [List.take_length] at this; exact this
      go_wp2_with fail
      go_ret
      exact ⟨rfl, bBel⟩

set_option maxRecDepth 100000 in
set_option maxHeartbeats 4000000 in
theorem isix_b (n : Int) (D : Bool) (hD : decide (0 ≤ n ∧ n ≤ 3) = D) (w : World) : Calls Tryz.prog 58 #[.int .i64 n] w fun e w' => e = .returned (.bool D) ∧ Below w.heap.size w w' := by
  have hD' : Hid (decide (0 ≤ n ∧ n ≤ 3) = D) := hD
  clear hD
  by_cases h1 : 0 ≤ n
  · have g1 : decide (0 ≤ n) = true := decide_eq_true h1
    by_cases h2 : n < 4
    · have g2 : decide (n < 4) = true := decide_eq_true h2
      obtain rfl : D = true := by rw [← hD'.out]; simp; omega
      clear hD'
      go_enter Tryz.func58, Tryz.ntmps58
      go_wp2_with fail
      go_ret
      exact ⟨rfl, bBel⟩
    · have g2 : decide (n < 4) = false := decide_eq_false h2
      obtain rfl : D = false := by rw [← hD'.out]; simp; omega
      clear hD'
      go_enter Tryz.func58, Tryz.ntmps58
      go_wp2_with fail
      go_ret
      exact ⟨rfl, bBel⟩
  · have g1 : decide (0 ≤ n) = false := decide_eq_false h1
    obtain rfl : D = false := by rw [← hD'.out]; simp; omega
    clear hD'
    go_enter Tryz.func58, Tryz.ntmps58
    go_wp2_with fail
    go_ret
    exact ⟨rfl, bBel⟩

set_option maxRecDepth 100000 in
set_option maxHeartbeats 4000000 in
theorem isval_b (a p b q : Int) (D : Bool) (hD : D = true ↔ okK ⟨a, p, b, q⟩) (w : World) : Calls Tryz.prog 43 #[.agg #[.int .i64 a, .int .i64 p, .int .i64 b, .int .i64 q]] w fun e w' => e = .returned (.bool D) ∧ Below w.heap.size w w' := by
  have hD' : Hid (D = true ↔ okK ⟨a, p, b, q⟩) := hD
  clear hD
  obtain ⟨u, hu⟩ : ∃ u, decide (0 ≤ p ∧ p ≤ 3) = u := ⟨_, rfl⟩
  obtain ⟨v, hv⟩ : ∃ v, decide (0 ≤ q ∧ q ≤ 3) = v := ⟨_, rfl⟩
  have c1 := fun w' => isix_b p u hu w'
  have c2 := fun w' => isix_b q v hv w'
  have hu2 : Hid (decide (0 ≤ p ∧ p ≤ 3) = u) := hu
  have hv2 : Hid (decide (0 ≤ q ∧ q ≤ 3) = v) := hv
  clear hu hv
  go_enter Tryz.func43, Tryz.ntmps43
  go_upto_region 1 with fail
  refine wp_named ?_
  intro V hV
  have kA : blk V w.heap.size #[.int .i64 a, .int .i64 p, .int .i64 b, .int .i64 q] 60 := by rw [hV]; exact bBkn
  have hbV : Below w.heap.size w V := by rw [hV]; exact bBel
  clear hV
  have hszV := hbV.size
  have okA := blk_older kA
  have ckA_0 : _ = some _ := blk_cell kA 0
  have ckA_1 : _ = some _ := blk_cell kA 1
  have ckA_2 : _ = some _ := blk_cell kA 2
  have ckA_3 : _ = some _ := blk_cell kA 3
  have fkA_0 := blk_free kA 0
  have fkA_1 := blk_free kA 1
  have fkA_2 := blk_free kA 2
  have fkA_3 := blk_free kA 3
  by_cases h1 : a < b
  · have g1 : decide (a < b) = true := decide_eq_true h1
    cases u with
    | false =>
      have e2 := of_decide_eq_false hu2.out
      obtain rfl : D = false := by
        cases hDD : D
        · rfl
        · have := hD'.out.1 hDD; unfold okK at this; dsimp only at this; omega
      clear hD' hu2 hv2 c2 h1 e2
      go_wp2_with (first | (go_at_call 58; with_reducible_and_instances refine Calls.mono (gw_at (c1 _)) ?_; rintro e w1 ⟨rfl, q, rfl⟩))
      go_ret
      exact ⟨rfl, bBel⟩
    | true =>
      have e2 := of_decide_eq_true hu2.out
      cases v with
      | false =>
        have e3 := of_decide_eq_false hv2.out
        obtain rfl : D = false := by
          cases hDD : D
          · rfl
          · have := hD'.out.1 hDD; unfold okK at this; dsimp only at this; omega
        clear hD' hu2 hv2 h1 e2 e3
        go_wp2_with (first | (go_at_call 58; with_reducible_and_instances refine Calls.mono (gw_at (c1 _)) ?_; rintro e w1 ⟨rfl, q, rfl⟩) | (go_at_call 58; with_reducible_and_instances refine Calls.mono (gw_at (c2 _)) ?_; rintro e w1 ⟨rfl, q, rfl⟩))
        go_ret
        exact ⟨rfl, bBel⟩
      | true =>
        have e3 := of_decide_eq_true hv2.out
        obtain rfl : D = true := hD'.out.2 (by unfold okK; dsimp only; omega)
        clear hD' hu2 hv2 h1 e2 e3
        go_wp2_with (first | (go_at_call 58; with_reducible_and_instances refine Calls.mono (gw_at (c1 _)) ?_; rintro e w1 ⟨rfl, q, rfl⟩) | (go_at_call 58; with_reducible_and_instances refine Calls.mono (gw_at (c2 _)) ?_; rintro e w1 ⟨rfl, q, rfl⟩))
        go_ret
        exact ⟨rfl, bBel⟩
  · have g1 : decide (a < b) = false := decide_eq_false h1
    obtain rfl : D = false := by
      cases hDD : D
      · rfl
      · have := hD'.out.1 hDD; unfold okK at this; dsimp only at this; omega
    clear hD' hu2 hv2 c1 c2 h1
    go_wp2_with fail
    go_ret
    exact ⟨rfl, bBel⟩

set_option maxHeartbeats 4000000 in
theorem or4_b (c1 c2 c3 c4 : Int) (b : Nat) (t : TypeId) (w : World) (h : blk w b #[.int .i64 c1, .int .i64 c2, .int .i64 c3, .int .i64 c4] t) : Calls Tryz.prog 41 #[.slice (some ⟨b, 0, none⟩) 4 4] w fun e w' => e = .returned (.int .i64 (if c1 = 0 then if c2 = 0 then if c3 = 0 then c4 else c3 else c2 else c1)) ∧ w' = w := by
  obtain ⟨R, hR⟩ : ∃ R, Hid ((if c1 = 0 then if c2 = 0 then if c3 = 0 then c4 else c3 else c2 else c1) = R) := ⟨_, rfl⟩
  rw [hR.out]
  have oh := blk_older h
  have ch_0 : _ = some _ := blk_cell h 0
  have ch_1 : _ = some _ := blk_cell h 1
  have ch_2 : _ = some _ := blk_cell h 2
  have ch_3 : _ = some _ := blk_cell h 3
  have fh_0 := blk_free h 0
  have fh_1 := blk_free h 1
  have fh_2 := blk_free h 2
  have fh_3 := blk_free h 3
  go_enter Tryz.func41, Tryz.ntmps41
  go_wp2_with fail
  go_loopw [8] (fun i wr => ∃ k : Nat, k ≤ 4 ∧ i = .int .i64 (k : Int) ∧ Hid (0 < k → c1 = 0) ∧ Hid (1 < k → c2 = 0) ∧ Hid (2 < k → c3 = 0) ∧ Hid (3 < k → c4 = 0) ∧ wr = w)
    (fun i _ => (4 - intOf i).toNat)
  case atStart => exact ⟨0, by omega, rfl, (fun h => by omega), (fun h => by omega), (fun h => by omega), (fun h => by omega), rfl⟩
  case round =>
    obtain ⟨k, hk, rfl, h1, h2, h3, h4, rfl⟩ := hrel
    by_cases k0 : k = 0
    · subst k0
      by_cases c : c1 = 0
      · have b1 : (c1 != 0) = false := by rw [bne_eq_false_iff_eq]; exact c
        have m1 : Hid (0 < 1 → c1 = 0) := fun _ => c
        clear hR c
        go_wp2_with fail
        exact ⟨⟨1, by omega, by go_num, m1, (fun h => by omega), (fun h => by omega), (fun h => by omega), by first | trivial | rfl⟩, by (try go_num); simp [intOf]; (try omega)⟩
      · have b1 : (c1 != 0) = true := by rw [bne_iff_ne]; exact c
        have e := hR.out; rw [if_neg c] at e; subst e
        clear hR
        go_wp2_with fail
        exact bodyPost_ret (v := .int .i64 c1) (by simp [results, Tryz.results41, go_sem]) rfl ⟨rfl, rfl⟩
    by_cases k1 : k = 1
    · subst k1
      have hc1 := h1.out (by omega)
      by_cases c : c2 = 0
      · have b1 : (c2 != 0) = false := by rw [bne_eq_false_iff_eq]; exact c
        have m1 : Hid (0 < 2 → c1 = 0) := fun _ => hc1
        have m2 : Hid (1 < 2 → c2 = 0) := fun _ => c
        clear hR c hc1
        go_wp2_with fail
        exact ⟨⟨2, by omega, by go_num, m1, m2, (fun h => by omega), (fun h => by omega), by first | trivial | rfl⟩, by (try go_num); simp [intOf]; (try omega)⟩
      · have b1 : (c2 != 0) = true := by rw [bne_iff_ne]; exact c
        have e := hR.out; rw [if_pos hc1, if_neg c] at e; subst e
        clear hR hc1
        go_wp2_with fail
        exact bodyPost_ret (v := .int .i64 c2) (by simp [results, Tryz.results41, go_sem]) rfl ⟨rfl, rfl⟩
    by_cases k2 : k = 2
    · subst k2
      have hc1 := h1.out (by omega)
      have hc2 := h2.out (by omega)
      by_cases c : c3 = 0
      · have b1 : (c3 != 0) = false := by rw [bne_eq_false_iff_eq]; exact c
        have m1 : Hid (0 < 3 → c1 = 0) := fun _ => hc1
        have m2 : Hid (1 < 3 → c2 = 0) := fun _ => hc2
        have m3 : Hid (2 < 3 → c3 = 0) := fun _ => c
        clear hR c hc1 hc2
        go_wp2_with fail
        exact ⟨⟨3, by omega, by go_num, m1, m2, m3, (fun h => by omega), by first | trivial | rfl⟩, by (try go_num); simp [intOf]; (try omega)⟩
      · have b1 : (c3 != 0) = true := by rw [bne_iff_ne]; exact c
        have e := hR.out; rw [if_pos hc1, if_pos hc2, if_neg c] at e; subst e
        clear hR hc1 hc2
        go_wp2_with fail
        exact bodyPost_ret (v := .int .i64 c3) (by simp [results, Tryz.results41, go_sem]) rfl ⟨rfl, rfl⟩
    by_cases k3 : k = 3
    · subst k3
      have hc1 := h1.out (by omega)
      have hc2 := h2.out (by omega)
      have hc3 := h3.out (by omega)
      by_cases c : c4 = 0
      · have b1 : (c4 != 0) = false := by rw [bne_eq_false_iff_eq]; exact c
        have m1 : Hid (0 < 4 → c1 = 0) := fun _ => hc1
        have m2 : Hid (1 < 4 → c2 = 0) := fun _ => hc2
        have m3 : Hid (2 < 4 → c3 = 0) := fun _ => hc3
        have m4 : Hid (3 < 4 → c4 = 0) := fun _ => c
        clear hR c hc1 hc2 hc3
        go_wp2_with fail
        exact ⟨⟨4, by omega, by go_num, m1, m2, m3, m4, by first | trivial | rfl⟩, by (try go_num); simp [intOf]; (try omega)⟩
      · have b1 : (c4 != 0) = true := by rw [bne_iff_ne]; exact c
        have e := hR.out; rw [if_pos hc1, if_pos hc2, if_pos hc3] at e; subst e
        clear hR hc1 hc2 hc3
        go_wp2_with fail
        exact bodyPost_ret (v := .int .i64 c4) (by simp [results, Tryz.results41, go_sem]) rfl ⟨rfl, rfl⟩
    obtain rfl : k = 4 := by omega
    have hc1 := h1.out (by omega)
    have hc2 := h2.out (by omega)
    have hc3 := h3.out (by omega)
    have hc4 := h4.out (by omega)
    have e := hR.out; rw [if_pos hc1, if_pos hc2, if_pos hc3, hc4] at e; subst e
    clear hR hc1 hc2 hc3 hc4
    go_wp2_with fail
    exact bodyPost_ret (v := .int .i64 0) (by simp [results, Tryz.results41, go_sem]) rfl ⟨rfl, rfl⟩

def cK (a p b q a2 p2 b2 q2 : Int) : Int := if Lib.compareInt a a2 = 0 then if Lib.compareInt p p2 = 0 then if Lib.compareInt b b2 = 0 then Lib.compareInt q q2 else Lib.compareInt b b2 else Lib.compareInt p p2 else Lib.compareInt a a2
theorem cK_lt (a p b q a2 p2 b2 q2 : Int) : decide (cK a p b q a2 p2 b2 q2 < 0) = les8 a p b q a2 p2 b2 q2 := by
  unfold cK les8 Lib.compareInt
  rw [decide_eq_decide]
  (repeat' split) <;> omega

set_option maxRecDepth 100000 in
set_option maxHeartbeats 8000000 in
theorem less_b (a p b q a2 p2 b2 q2 : Int) (w : World) : Calls Tryz.prog 22 #[.agg #[.int .i64 a, .int .i64 p, .int .i64 b, .int .i64 q], .agg #[.int .i64 a2, .int .i64 p2, .int .i64 b2, .int .i64 q2]] w fun e w' => e = .returned (.bool (les8 a p b q a2 p2 b2 q2)) ∧ Below w.heap.size w w' := by
  have c1 := fun w' => gocmp21_b a a2 w'
  have c2 := fun w' => gocmp21_b p p2 w'
  have c3 := fun w' => gocmp21_b b b2 w'
  have c4 := fun w' => gocmp21_b q q2 w'
  have hK : cK a p b q a2 p2 b2 q2 = if Lib.compareInt a a2 = 0 then if Lib.compareInt p p2 = 0 then if Lib.compareInt b b2 = 0 then Lib.compareInt q q2 else Lib.compareInt b b2 else Lib.compareInt p p2 else Lib.compareInt a a2 := rfl
  have cO := fun bb t w' h => or4_b (Lib.compareInt a a2) (Lib.compareInt p p2) (Lib.compareInt b b2) (Lib.compareInt q q2) bb t w' h
  rw [← hK] at cO
  clear hK
  rw [← cK_lt]
  generalize cK a p b q a2 p2 b2 q2 = R at *
  generalize Lib.compareInt a a2 = x1 at *
  generalize Lib.compareInt p p2 = x2 at *
  generalize Lib.compareInt b b2 = x3 at *
  generalize Lib.compareInt q q2 = x4 at *
  go_enter Tryz.func22, Tryz.ntmps22
  go_upto_region 1 with fail
  refine wp_named ?_
  intro W hW
  have kA : blk W w.heap.size #[.int .i64 a, .int .i64 p, .int .i64 b, .int .i64 q] 60 := by rw [hW]; exact bBkn
  have kB : blk W (w.heap.size + 1) #[.int .i64 a2, .int .i64 p2, .int .i64 b2, .int .i64 q2] 60 := by rw [hW]; exact bBkn
  have hbW : Below w.heap.size w W := by rw [hW]; exact bBel
  clear hW
  have okA := blk_older kA
  have ckA_0 : _ = some _ := blk_cell kA 0
  have ckA_1 : _ = some _ := blk_cell kA 1
  have ckA_2 : _ = some _ := blk_cell kA 2
  have ckA_3 : _ = some _ := blk_cell kA 3
  have fkA_0 := blk_free kA 0
  have fkA_1 := blk_free kA 1
  have fkA_2 := blk_free kA 2
  have fkA_3 := blk_free kA 3
  have okB := blk_older kB
  have ckB_0 : _ = some _ := blk_cell kB 0
  have ckB_1 : _ = some _ := blk_cell kB 1
  have ckB_2 : _ = some _ := blk_cell kB 2
  have ckB_3 : _ = some _ := blk_cell kB 3
  have fkB_0 := blk_free kB 0
  have fkB_1 := blk_free kB 1
  have fkB_2 := blk_free kB 2
  have fkB_3 := blk_free kB 3
  have hszW := hbW.size
  refine wp_region_tail (C := fun w' => ∃ n : Nat, w' = W.drewN n) 20 (by kernel_rfl) (by kernel_rfl) ⟨1, rfl⟩ ?_
  simp only [List.take_succ_cons, List.take_zero, List.drop_succ_cons, List.drop_zero]
  repeat (go_big_quiet_step (first | (go_at_call 42; with_reducible_and_instances exact dr21_call (c1 _)) | (go_at_call 42; with_reducible_and_instances exact dr21_call (c2 _)) | (go_at_call 42; with_reducible_and_instances exact dr21_call (c3 _)) | (go_at_call 42; with_reducible_and_instances exact dr21_call (c4 _))))
  refine wpQuiet_nil ?_
  intro w1 hw1
  obtain ⟨n, rfl⟩ := hw1
  have hbN : Below w.heap.size w (W.drewN n) := by rw [drewN_gw]; exact bgw hbW hszW _
  have hzN := hbN.size
  generalize W.drewN n = V at *
  clear c1 c2 c3 c4
  go_wp2_with (go_at_call 41; refine Calls.mono (cO _ 3 _ bBkn) ?_; rintro e w1 ⟨rfl, rfl⟩)
  go_ret
  exact ⟨rfl, bBel⟩

end Go.Proofs.YtaahgblkmajceaaGreat
