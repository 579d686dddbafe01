/- Contracts of chapter 18's program: CastPolygon. -/
import Derived.Test.YtpdhfhcfjdnlpaaGreatCoD
import Derived.Test.YtpdhfhcfjdnlpaaGreatFixQP
import Derived.Test.YtpdhfhcfjdnlpaaGreatRa
set_option linter.unusedVariables false
namespace Go.Proofs.YtpdhfhcfjdnlpaaGreat
open Go.RowKit Fx

set_option maxRecDepth 100000 in
set_option maxHeartbeats 16000000 in
theorem ycp_b (A : Option Addr) (cap : Nat) (ps : List (Int × Int)) (fx fy gx gy t x y : Int) (b : Bool) (hl : ps.length ≤ 1000000) (hH : castP ps fx fy gx gy = ⟨t, x, y, b⟩) (w : World) (hp : Pts w A ps) : Calls Tryz.prog 11 #[.slice A ps.length cap, .agg #[.int .i64 fx, .int .i64 fy], .agg #[.int .i64 gx, .int .i64 gy]] w fun e w' => e = .returned (.tuple #[.int .i64 t, .agg #[.int .i64 x, .int .i64 y], .bool b]) ∧ Below w.heap.size w w' := by
  have cE := fun (k : Nat) w' h => ynor_b A cap ps k (by omega) w' h
  have hX : Hid (∀ k (h : k < ps.length), rX ps fx fy k = dot (eNor ps k).1 (eNor ps k).2 (sub ps[k].1 fx) (sub ps[k].2 fy)) := fun k h => by rw [← hp_get h]; rfl
  have hY : Hid (∀ k : Nat, rY ps (sub gx fx) (sub gy fy) k = dot (eNor ps k).1 (eNor ps k).2 (sub gx fx) (sub gy fy)) := fun k => rfl
  unfold castP at hH
  obtain ⟨N, hN⟩ : ∃ N : Nat → Pt, (fun k : Nat => eNor ps (k : Int)) = N := ⟨_, rfl⟩
  have hNk : ∀ k : Nat, eNor ps (k : Int) = N k := fun k => by rw [← hN]
  simp only [hNk] at cE hX hY
  rw [hN] at hH
  clear hN hNk
  have cD := fun w' => vsub_b gx gy fx fy w'
  generalize rX ps fx fy = X at *
  generalize rY ps (sub gx fx) (sub gy fy) = Y at *
  generalize sub gx fx = dx at *
  generalize sub gy fy = dy at *
  have hno : cstF X Y N ps.length = .no → Hid (t = 0) ∧ Hid (x = 0) ∧ Hid (y = 0) ∧ Hid (b = false) := fun h => by rw [hH] at h; injection h; exact ⟨by assumption, by assumption, by assumption, by assumption⟩
  have hH2 : Hid (cstF X Y N ps.length = ⟨t, x, y, b⟩) := hH
  clear hH
  go_enter Tryz.func11, Tryz.ntmps11
  go_wp2_with (go_at_call 20; refine Calls.mono (gw_at (cD _)) ?_; rintro e w1 ⟨rfl, q1, rfl⟩)
  go_step3
  go_wp2_with (go_at_call 20; refine Calls.mono (gw_at (cD _)) ?_; rintro e w1 ⟨rfl, q1, rfl⟩)
  refine wp_named ?_
  intro W hW
  have kF : blk W w.heap.size #[.int .i64 fx, .int .i64 fy] 27 := by rw [hW]; exact bBkn
  have kR : blk W (w.heap.size + 2) #[.int .i64 0, .int .i64 0] 27 := by rw [hW]; exact bBkn
  have kD : blk W (w.heap.size + 1 + 1 + 1 + q1.os.size) #[.int .i64 dx, .int .i64 dy] 27 := by rw [hW]; exact bBkn
  have kN : blk W (w.heap.size + 1 + 1 + 1 + q1.os.size + 1) #[.int .i64 (enF X Y N 0).2.1, .int .i64 (enF X Y N 0).2.2] 27 := by rw [hW]; show blk _ _ #[.int .i64 0, .int .i64 0] _; exact bBkn
  have hbW : Below w.heap.size w W := by rw [hW]; exact bBel
  have hszW := hbW.size
  have g1 : w.heap.size + 2 < w.heap.size + 1 + 1 + 1 + q1.os.size := by omega
  have g2 : w.heap.size + 1 + 1 + 1 + q1.os.size < w.heap.size + 1 + 1 + 1 + q1.os.size + 1 := by omega
  clear hW cD
  generalize w.heap.size + 1 + 1 + 1 + q1.os.size + 1 = BN at *
  generalize w.heap.size + 1 + 1 + 1 + q1.os.size = BD at *
  go_step3
  go_wp2_with fail
  go_loopw [10, 11, 25] (fun e o i wr => ∃ k : Nat, k ≤ ps.length ∧ e = .int .i64 (enF X Y N k).1 ∧ o = .int .i64 (exF X Y k) ∧ i = .int .i64 (k : Int) ∧ bdF X Y k = false ∧ (enF X Y N k).1 ≤ exF X Y k ∧ blk wr w.heap.size #[.int .i64 fx, .int .i64 fy] 27 ∧ blk wr (w.heap.size + 2) #[.int .i64 0, .int .i64 0] 27 ∧ blk wr BD #[.int .i64 dx, .int .i64 dy] 27 ∧ blk wr BN #[.int .i64 (enF X Y N k).2.1, .int .i64 (enF X Y N k).2.2] 27 ∧ Below w.heap.size w wr)
    (fun _ _ i _ => (ps.length - intOf i).toNat)
  case atStart => exact ⟨0, by omega, rfl, rfl, rfl, rfl, by show (-1 : Int) ≤ 65536; omega, kF, kR, kD, kN, hbW⟩
  case round =>
    obtain ⟨k, hk, rfl, rfl, rfl, hb0, ho0, kF1, kR1, kD1, kN1, hbR⟩ := hrel
    have hszR := hbR.size
    clear kF kR kD kN hbW hszW
    have okF1 := blk_older kF1
    have ckF1_0 : _ = some _ := blk_cell kF1 0
    have ckF1_1 : _ = some _ := blk_cell kF1 1
    have fkF1_0 := blk_free kF1 0
    have fkF1_1 := blk_free kF1 1
    have okR1 := blk_older kR1
    have ckR1_0 : _ = some _ := blk_cell kR1 0
    have ckR1_1 : _ = some _ := blk_cell kR1 1
    have fkR1_0 := blk_free kR1 0
    have fkR1_1 := blk_free kR1 1
    have okD1 := blk_older kD1
    have ckD1_0 : _ = some _ := blk_cell kD1 0
    have ckD1_1 : _ = some _ := blk_cell kD1 1
    have fkD1_0 := blk_free kD1 0
    have fkD1_1 := blk_free kD1 1
    have okN1 := blk_older kN1
    have ckN1_0 : _ = some _ := blk_cell kN1 0
    have ckN1_1 : _ = some _ := blk_cell kN1 1
    have fkN1_0 := blk_free kN1 0
    have fkN1_1 := blk_free kN1 1
    have hen := @en_in X Y N k
    have hnn := @en_no X Y N k
    have hxn := @ex_in X Y k
    have hxx := @ex_no X Y k
    by_cases hlt : k < ps.length
    · have j0 : (0 : Int) ≤ (k : Int) := by omega
      have j1 : (k : Int) < (ps.length : Int) := by omega
      have hge := en_ge (X := X) (Y := Y) (N := N) k
      have hXk : Hid _ := hX.out k hlt
      have hYk : Hid _ := hY.out k
      obtain ⟨b2, off2, hA2, hc2⟩ := pts_open0 (Pts.to hp hbR) (by omega)
      subst hA2
      obtain ⟨d0, d1⟩ := hc2 k hlt
      have ob := older_of_cell d0
      clear hc2
      have cE1 := cE k
      obtain ⟨n, hn⟩ : ∃ n, Hid (N k = n) := ⟨_, rfl⟩
      rw [hn.out] at cE1 hXk hYk hen
      obtain ⟨n1, n2⟩ := n
      dsimp only at cE1 hXk hYk
      have cS := fun w' => vsub_b ps[k].1 ps[k].2 fx fy w'
      generalize ps[k].1 = u at *
      generalize ps[k].2 = v at *
      generalize sub u fx = su at *
      generalize sub v fy = sv at *
      have cX := fun w' => dot_b n1 n2 su sv w'
      have cY := fun w' => dot_b n1 n2 dx dy w'
      rw [← hXk.out] at cX
      rw [← hYk.out] at cY
      clear hXk hYk
      have hbad := @cst_bad X Y N k ps.length hlt
      have hbno := @bd_no X Y k hb0
      have hout := @cst_out X Y N (k + 1) ps.length (by omega)
      have cQ := fun w' => div_b (X k) (Y k) w'
      obtain ⟨E1, hE1⟩ : ∃ E1, Hid (enF X Y N (k + 1) = E1) := ⟨_, rfl⟩
      obtain ⟨O1, hO1⟩ : ∃ O1, Hid (exF X Y (k + 1) = O1) := ⟨_, rfl⟩
      rw [hE1.out] at hen hnn hout
      rw [hO1.out] at hxn hxx hout
      have hb2 := hbno
      generalize X k = xk at *
      generalize Y k = yk at *
      generalize quo xk yk = qk at *
      generalize exF X Y k = o0 at *
      generalize enF X Y N k = E at *
      obtain ⟨e0, m1, m2⟩ := E
      dsimp only at kN1 ckN1_0 ckN1_1 ho0 hge hen hnn
      go_upto_region 7 with (go_at_call 36; refine Calls.mono (gw_at (cE1 _ (Pts.to hp bBel))) ?_; rintro e w1 ⟨rfl, q2, rfl⟩)
      refine wp_named ?_
      intro V hV
      have kF2 : blk V w.heap.size #[.int .i64 fx, .int .i64 fy] 27 := by rw [hV]; exact (by apply blk_of; (repeat (first | with_reducible exact kF1 | with_reducible apply blk_drew | with_reducible apply blk_gw | with_reducible apply blk_alloc | with_reducible apply blk_set | ((with_reducible apply blk_other); focus omega))); (first | rfl | simp))
      have kR2 : blk V (w.heap.size + 2) #[.int .i64 0, .int .i64 0] 27 := by rw [hV]; exact (by apply blk_of; (repeat (first | with_reducible exact kR1 | with_reducible apply blk_drew | with_reducible apply blk_gw | with_reducible apply blk_alloc | with_reducible apply blk_set | ((with_reducible apply blk_other); focus omega))); (first | rfl | simp))
      have kD2 : blk V BD #[.int .i64 dx, .int .i64 dy] 27 := by rw [hV]; exact (by apply blk_of; (repeat (first | with_reducible exact kD1 | with_reducible apply blk_drew | with_reducible apply blk_gw | with_reducible apply blk_alloc | with_reducible apply blk_set | ((with_reducible apply blk_other); focus omega))); (first | rfl | simp))
      have kN2 : blk V BN #[.int .i64 m1, .int .i64 m2] 27 := by rw [hV]; exact (by apply blk_of; (repeat (first | with_reducible exact kN1 | with_reducible apply blk_drew | with_reducible apply blk_gw | with_reducible apply blk_alloc | with_reducible apply blk_set | ((with_reducible apply blk_other); focus omega))); (first | rfl | simp))
      have kS2 : blk V wr.heap.size #[.int .i64 u, .int .i64 v] 27 := by rw [hV]; exact bBkn
      have kn2 : blk V (wr.heap.size + 1 + q2.os.size) #[.int .i64 n1, .int .i64 n2] 27 := by rw [hV]; exact bBkn
      have hbV : Below w.heap.size w V := by rw [hV]; exact bBel
      have hszV := hbV.size
      have g3 : BN < wr.heap.size + 1 + q2.os.size := by have := blk_lt kN1; omega
      clear hV kF1 kR1 kD1 kN1 okF1 ckF1_0 ckF1_1 fkF1_0 fkF1_1 okR1 ckR1_0 ckR1_1 fkR1_0 fkR1_1 okD1 ckD1_0 ckD1_1 fkD1_0 fkD1_1 okN1 ckN1_0 ckN1_1 fkN1_0 fkN1_1 d0 d1 ob cE cE1
      generalize wr.heap.size + 1 + q2.os.size = Bn at *
      generalize wr.heap.size = Bs at *
      have okF2 := blk_older kF2
      have ckF2_0 : _ = some _ := blk_cell kF2 0
      have ckF2_1 : _ = some _ := blk_cell kF2 1
      have fkF2_0 := blk_free kF2 0
      have fkF2_1 := blk_free kF2 1
      have okR2 := blk_older kR2
      have ckR2_0 : _ = some _ := blk_cell kR2 0
      have ckR2_1 : _ = some _ := blk_cell kR2 1
      have fkR2_0 := blk_free kR2 0
      have fkR2_1 := blk_free kR2 1
      have okD2 := blk_older kD2
      have ckD2_0 : _ = some _ := blk_cell kD2 0
      have ckD2_1 : _ = some _ := blk_cell kD2 1
      have fkD2_0 := blk_free kD2 0
      have fkD2_1 := blk_free kD2 1
      have okN2 := blk_older kN2
      have ckN2_0 : _ = some _ := blk_cell kN2 0
      have ckN2_1 : _ = some _ := blk_cell kN2 1
      have fkN2_0 := blk_free kN2 0
      have fkN2_1 := blk_free kN2 1
      have okS2 := blk_older kS2
      have ckS2_0 : _ = some _ := blk_cell kS2 0
      have ckS2_1 : _ = some _ := blk_cell kS2 1
      have fkS2_0 := blk_free kS2 0
      have fkS2_1 := blk_free kS2 1
      have okn2 := blk_older kn2
      have ckn2_0 : _ = some _ := blk_cell kn2 0
      have ckn2_1 : _ = some _ := blk_cell kn2 1
      have fkn2_0 := blk_free kn2 0
      have fkn2_1 := blk_free kn2 1
      refine wp_region_gw (by kernel_rfl) (by kernel_rfl) ?_
      repeat (go_big_quiet_step ((first | (go_at_call 20; with_reducible_and_instances exact gw_call (cS _)) | (go_at_call 27; with_reducible_and_instances exact gw_call (cX _)) | (go_at_call 27; with_reducible_and_instances exact gw_call (cY _)))))
      refine wpQuiet_nil ?_
      intro w1 hw1
      obtain ⟨q, rfl⟩ := hw1
      go_upto_region 8 with fail
      refine wp_named ?_
      intro U hU
      have kF3 : blk U w.heap.size #[.int .i64 fx, .int .i64 fy] 27 := by rw [hU]; exact (by apply blk_of; (repeat (first | with_reducible exact kF2 | with_reducible apply blk_drew | with_reducible apply blk_gw | with_reducible apply blk_alloc | with_reducible apply blk_set | ((with_reducible apply blk_other); focus omega))); (first | rfl | simp))
      have kR3 : blk U (w.heap.size + 2) #[.int .i64 0, .int .i64 0] 27 := by rw [hU]; exact (by apply blk_of; (repeat (first | with_reducible exact kR2 | with_reducible apply blk_drew | with_reducible apply blk_gw | with_reducible apply blk_alloc | with_reducible apply blk_set | ((with_reducible apply blk_other); focus omega))); (first | rfl | simp))
      have kD3 : blk U BD #[.int .i64 dx, .int .i64 dy] 27 := by rw [hU]; exact (by apply blk_of; (repeat (first | with_reducible exact kD2 | with_reducible apply blk_drew | with_reducible apply blk_gw | with_reducible apply blk_alloc | with_reducible apply blk_set | ((with_reducible apply blk_other); focus omega))); (first | rfl | simp))
      have kN3 : blk U BN #[.int .i64 m1, .int .i64 m2] 27 := by rw [hU]; exact (by apply blk_of; (repeat (first | with_reducible exact kN2 | with_reducible apply blk_drew | with_reducible apply blk_gw | with_reducible apply blk_alloc | with_reducible apply blk_set | ((with_reducible apply blk_other); focus omega))); (first | rfl | simp))
      have kn3 : blk U Bn #[.int .i64 n1, .int .i64 n2] 27 := by rw [hU]; exact (by apply blk_of; (repeat (first | with_reducible exact kn2 | with_reducible apply blk_drew | with_reducible apply blk_gw | with_reducible apply blk_alloc | with_reducible apply blk_set | ((with_reducible apply blk_other); focus omega))); (first | rfl | simp))
      have hbU : Below w.heap.size w U := by rw [hU]; exact bBel
      have hszU := hbU.size
      clear hU kF2 kR2 kD2 kN2 kn2 kS2 okF2 ckF2_0 ckF2_1 fkF2_0 fkF2_1 okR2 ckR2_0 ckR2_1 fkR2_0 fkR2_1 okD2 ckD2_0 ckD2_1 fkD2_0 fkD2_1 okN2 ckN2_0 ckN2_1 fkN2_0 fkN2_1 okS2 ckS2_0 ckS2_1 fkS2_0 fkS2_1 okn2 ckn2_0 ckn2_1 fkn2_0 fkn2_1 cS cX cY
      have okR3 := blk_older kR3
      have ckR3_0 : _ = some _ := blk_cell kR3 0
      have ckR3_1 : _ = some _ := blk_cell kR3 1
      have fkR3_0 := blk_free kR3 0
      have fkR3_1 := blk_free kR3 1
      have okN3 := blk_older kN3
      have ckN3_0 : _ = some _ := blk_cell kN3 0
      have ckN3_1 : _ = some _ := blk_cell kN3 1
      have fkN3_0 := blk_free kN3 0
      have fkN3_1 := blk_free kN3 1
      have okn3 := blk_older kn3
      have ckn3_0 : _ = some _ := blk_cell kn3 0
      have ckn3_1 : _ = some _ := blk_cell kn3 1
      have fkn3_0 := blk_free kn3 0
      have fkn3_1 := blk_free kn3 1
      by_cases c1 : yk < 0
      · have hb1 := hbno (by omega)
        have ex := hxx (by omega)
        have exh : Hid (O1 = o0) := ex
        clear ex hxn hxx hbad hbno hb2
        by_cases c2 : e0 < qk
        · have eh : Hid (E1 = (qk, n1, n2)) := hen c1 c2
          clear hen hnn
          by_cases c3 : o0 < qk
          · obtain ⟨z0, z1, z2, z3⟩ := hno (hout (by rw [exh.out, eh.out]; exact c3))
            clear hout hno
            go_wp2_with (go_at_call 37; refine Calls.mono (gw_at (cQ _)) ?_; rintro e w1 ⟨rfl, q5, rfl⟩)
            refine wp_region_gw_tail 3 (by kernel_rfl) (by kernel_rfl) ?_
            simp only [List.take_succ_cons, List.take_zero, List.drop_succ_cons, List.drop_zero]
            repeat (go_big_quiet_step ((first | (go_at_call 20; exact gw_call (vsub_b _ _ _ _ _)) | (go_at_call 36; exact gw_call (cN _ (Pts.to hp bBel))) | (go_at_call 27; exact gw_call (dot_b _ _ _ _ _)) | (go_at_call 37; exact gw_call (div_b _ _ _)))))
            refine wpQuiet_nil ?_
            intro w1 hw1
            obtain ⟨q, rfl⟩ := hw1
            go_wp2_with fail
            (try rw [Exit.noGoto_ret]); refine post_named ?_
            intro Z hZ
            have kZ : blk Z (w.heap.size + 2) #[.int .i64 0, .int .i64 0] 27 := by rw [hZ]; exact (by apply blk_of; (repeat (first | with_reducible exact kR3 | with_reducible apply blk_drew | with_reducible apply blk_gw | with_reducible apply blk_alloc | with_reducible apply blk_set | ((with_reducible apply blk_other); focus omega))); (first | rfl | simp))
            have hbZ : Below w.heap.size w Z := by rw [hZ]; exact bBel
            clear hZ
            have okZ := blk_older kZ
            have ckZ_0 : _ = some _ := blk_cell kZ 0
            have ckZ_1 : _ = some _ := blk_cell kZ 1
            have fkZ_0 := blk_free kZ 0
            have fkZ_1 := blk_free kZ 1
            refine bodyPost_ret (v := .tuple #[.int .i64 0, .agg #[.int .i64 0, .int .i64 0], .bool false]) (by simp [results, Tryz.results11, go_sem, ckZ_0, ckZ_1]) rfl ⟨by rw [z0.out, z1.out, z2.out, z3.out], hbZ⟩
          · clear hout
            go_wp2_with (go_at_call 37; refine Calls.mono (gw_at (cQ _)) ?_; rintro e w1 ⟨rfl, q5, rfl⟩)
            refine wp_region_gw_tail 3 (by kernel_rfl) (by kernel_rfl) ?_
            simp only [List.take_succ_cons, List.take_zero, List.drop_succ_cons, List.drop_zero]
            repeat (go_big_quiet_step ((first | (go_at_call 20; exact gw_call (vsub_b _ _ _ _ _)) | (go_at_call 36; exact gw_call (cN _ (Pts.to hp bBel))) | (go_at_call 27; exact gw_call (dot_b _ _ _ _ _)) | (go_at_call 37; exact gw_call (div_b _ _ _)))))
            refine wpQuiet_nil ?_
            intro w1 hw1
            obtain ⟨q, rfl⟩ := hw1
            go_wp2_with fail
            exact ⟨⟨k + 1, by omega, by rw [hE1.out, eh.out], by rw [hO1.out, exh.out], by go_num, hb1, by rw [hE1.out, hO1.out, eh.out, exh.out]; show _ ≤ _; omega, (by apply blk_of; (repeat (first | with_reducible exact kF3 | with_reducible apply blk_drew | with_reducible apply blk_gw | with_reducible apply blk_alloc | with_reducible apply blk_set | ((with_reducible apply blk_other); focus omega))); (first | rfl | simp)), (by apply blk_of; (repeat (first | with_reducible exact kR3 | with_reducible apply blk_drew | with_reducible apply blk_gw | with_reducible apply blk_alloc | with_reducible apply blk_set | ((with_reducible apply blk_other); focus omega))); (first | rfl | simp)), (by apply blk_of; (repeat (first | with_reducible exact kD3 | with_reducible apply blk_drew | with_reducible apply blk_gw | with_reducible apply blk_alloc | with_reducible apply blk_set | ((with_reducible apply blk_other); focus omega))); (first | rfl | simp)), by rw [hE1.out, eh.out]; exact (by apply blk_of; (repeat (first | with_reducible exact kN3 | with_reducible apply blk_drew | with_reducible apply blk_gw | with_reducible apply blk_alloc | with_reducible apply blk_set | ((with_reducible apply blk_other); focus omega))); (first | rfl | simp)), bBel⟩, by (try go_num); simp [intOf]; (try omega)⟩
        · have eh : Hid (E1 = (e0, m1, m2)) := hnn fun h => c2 h.2
          have c3 : ¬ o0 < e0 := by omega
          clear hen hnn hout
          go_wp2_with (go_at_call 37; refine Calls.mono (gw_at (cQ _)) ?_; rintro e w1 ⟨rfl, q5, rfl⟩)
          exact ⟨⟨k + 1, by omega, by rw [hE1.out, eh.out], by rw [hO1.out, exh.out], by go_num, hb1, by rw [hE1.out, hO1.out, eh.out, exh.out]; show _ ≤ _; omega, (by apply blk_of; (repeat (first | with_reducible exact kF3 | with_reducible apply blk_drew | with_reducible apply blk_gw | with_reducible apply blk_alloc | with_reducible apply blk_set | ((with_reducible apply blk_other); focus omega))); (first | rfl | simp)), (by apply blk_of; (repeat (first | with_reducible exact kR3 | with_reducible apply blk_drew | with_reducible apply blk_gw | with_reducible apply blk_alloc | with_reducible apply blk_set | ((with_reducible apply blk_other); focus omega))); (first | rfl | simp)), (by apply blk_of; (repeat (first | with_reducible exact kD3 | with_reducible apply blk_drew | with_reducible apply blk_gw | with_reducible apply blk_alloc | with_reducible apply blk_set | ((with_reducible apply blk_other); focus omega))); (first | rfl | simp)), by rw [hE1.out, eh.out]; exact (by apply blk_of; (repeat (first | with_reducible exact kN3 | with_reducible apply blk_drew | with_reducible apply blk_gw | with_reducible apply blk_alloc | with_reducible apply blk_set | ((with_reducible apply blk_other); focus omega))); (first | rfl | simp)), bBel⟩, by (try go_num); simp [intOf]; (try omega)⟩
      by_cases c2 : 0 < yk
      · have hb1 := hbno (by omega)
        have exh : Hid (O1 = min o0 qk) := hxn c2
        have eh : Hid (E1 = (e0, m1, m2)) := hnn fun h => c1 h.1
        clear hxn hxx hbad hbno hb2 hen hnn
        by_cases c3 : min o0 qk < e0
        · obtain ⟨z0, z1, z2, z3⟩ := hno (hout (by rw [exh.out, eh.out]; exact c3))
          clear hout hno
          go_wp2_with (go_at_call 37; refine Calls.mono (gw_at (cQ _)) ?_; rintro e w1 ⟨rfl, q5, rfl⟩)
          (try rw [Exit.noGoto_ret]); refine post_named ?_
          intro Z hZ
          have kZ : blk Z (w.heap.size + 2) #[.int .i64 0, .int .i64 0] 27 := by rw [hZ]; exact (by apply blk_of; (repeat (first | with_reducible exact kR3 | with_reducible apply blk_drew | with_reducible apply blk_gw | with_reducible apply blk_alloc | with_reducible apply blk_set | ((with_reducible apply blk_other); focus omega))); (first | rfl | simp))
          have hbZ : Below w.heap.size w Z := by rw [hZ]; exact bBel
          clear hZ
          have okZ := blk_older kZ
          have ckZ_0 : _ = some _ := blk_cell kZ 0
          have ckZ_1 : _ = some _ := blk_cell kZ 1
          have fkZ_0 := blk_free kZ 0
          have fkZ_1 := blk_free kZ 1
          refine bodyPost_ret (v := .tuple #[.int .i64 0, .agg #[.int .i64 0, .int .i64 0], .bool false]) (by simp [results, Tryz.results11, go_sem, ckZ_0, ckZ_1]) rfl ⟨by rw [z0.out, z1.out, z2.out, z3.out], hbZ⟩
        · clear hout
          go_wp2_with (go_at_call 37; refine Calls.mono (gw_at (cQ _)) ?_; rintro e w1 ⟨rfl, q5, rfl⟩)
          exact ⟨⟨k + 1, by omega, by rw [hE1.out, eh.out], by rw [hO1.out, exh.out], by go_num, hb1, by rw [hE1.out, hO1.out, eh.out, exh.out]; show _ ≤ _; omega, (by apply blk_of; (repeat (first | with_reducible exact kF3 | with_reducible apply blk_drew | with_reducible apply blk_gw | with_reducible apply blk_alloc | with_reducible apply blk_set | ((with_reducible apply blk_other); focus omega))); (first | rfl | simp)), (by apply blk_of; (repeat (first | with_reducible exact kR3 | with_reducible apply blk_drew | with_reducible apply blk_gw | with_reducible apply blk_alloc | with_reducible apply blk_set | ((with_reducible apply blk_other); focus omega))); (first | rfl | simp)), (by apply blk_of; (repeat (first | with_reducible exact kD3 | with_reducible apply blk_drew | with_reducible apply blk_gw | with_reducible apply blk_alloc | with_reducible apply blk_set | ((with_reducible apply blk_other); focus omega))); (first | rfl | simp)), by rw [hE1.out, eh.out]; exact (by apply blk_of; (repeat (first | with_reducible exact kN3 | with_reducible apply blk_drew | with_reducible apply blk_gw | with_reducible apply blk_alloc | with_reducible apply blk_set | ((with_reducible apply blk_other); focus omega))); (first | rfl | simp)), bBel⟩, by (try go_num); simp [intOf]; (try omega)⟩
      have exh : Hid (O1 = o0)   := hxx (by omega)
      have eh : Hid (E1 = (e0, m1, m2)) := hnn fun h => c1 h.1
      clear hxn hxx hen hnn hout
      by_cases c3 : xk < 0
      · obtain ⟨z0, z1, z2, z3⟩ := hno (hbad (by omega) c3)
        clear hno hbad hbno hb2
        go_wp2_with fail
        (try rw [Exit.noGoto_ret]); refine post_named ?_
        intro Z hZ
        have kZ : blk Z (w.heap.size + 2) #[.int .i64 0, .int .i64 0] 27 := by rw [hZ]; exact (by apply blk_of; (repeat (first | with_reducible exact kR3 | with_reducible apply blk_drew | with_reducible apply blk_gw | with_reducible apply blk_alloc | with_reducible apply blk_set | ((with_reducible apply blk_other); focus omega))); (first | rfl | simp))
        have hbZ : Below w.heap.size w Z := by rw [hZ]; exact bBel
        clear hZ
        have okZ := blk_older kZ
        have ckZ_0 : _ = some _ := blk_cell kZ 0
        have ckZ_1 : _ = some _ := blk_cell kZ 1
        have fkZ_0 := blk_free kZ 0
        have fkZ_1 := blk_free kZ 1
        refine bodyPost_ret (v := .tuple #[.int .i64 0, .agg #[.int .i64 0, .int .i64 0], .bool false]) (by simp [results, Tryz.results11, go_sem, ckZ_0, ckZ_1]) rfl ⟨by rw [z0.out, z1.out, z2.out, z3.out], hbZ⟩
      · have hb1 := hbno fun h => c3 h.2
        have c4 : ¬ o0 < e0 := by omega
        clear hno hbad hbno hb2
        go_wp2_with fail
        exact ⟨⟨k + 1, by omega, by rw [hE1.out, eh.out], by rw [hO1.out, exh.out], by go_num, hb1, by rw [hE1.out, hO1.out, eh.out, exh.out]; show _ ≤ _; omega, (by apply blk_of; (repeat (first | with_reducible exact kF3 | with_reducible apply blk_drew | with_reducible apply blk_gw | with_reducible apply blk_alloc | with_reducible apply blk_set | ((with_reducible apply blk_other); focus omega))); (first | rfl | simp)), (by apply blk_of; (repeat (first | with_reducible exact kR3 | with_reducible apply blk_drew | with_reducible apply blk_gw | with_reducible apply blk_alloc | with_reducible apply blk_set | ((with_reducible apply blk_other); focus omega))); (first | rfl | simp)), (by apply blk_of; (repeat (first | with_reducible exact kD3 | with_reducible apply blk_drew | with_reducible apply blk_gw | with_reducible apply blk_alloc | with_reducible apply blk_set | ((with_reducible apply blk_other); focus omega))); (first | rfl | simp)), by rw [hE1.out, eh.out]; exact (by apply blk_of; (repeat (first | with_reducible exact kN3 | with_reducible apply blk_drew | with_reducible apply blk_gw | with_reducible apply blk_alloc | with_reducible apply blk_set | ((with_reducible apply blk_other); focus omega))); (first | rfl | simp)), bBel⟩, by (try go_num); simp [intOf]; (try omega)⟩
    · obtain rfl : k = ps.length := by omega
      have j1 : ¬ (ps.length : Int) < (ps.length : Int) := by omega
      clear hen hnn hxn hxx
      have hhit := @cst_hit X Y N ps.length hb0
      have hnon := @cst_none X Y N ps.length
      have hge := en_ge (X := X) (Y := Y) (N := N) ps.length
      generalize exF X Y ps.length = o0 at *
      generalize enF X Y N ps.length = E at *
      obtain ⟨e0, m1, m2⟩ := E
      dsimp only at kN1 ckN1_0 ckN1_1 ho0 hhit hnon hge
      by_cases c1 : e0 = -1
      · obtain ⟨z0, z1, z2, z3⟩ := hno (hnon c1)
        subst c1
        clear hno hhit hnon
        go_wp2_with fail
        (try rw [Exit.noGoto_ret]); refine post_named ?_
        intro Z hZ
        have kZ : blk Z (w.heap.size + 2) #[.int .i64 0, .int .i64 0] 27 := by rw [hZ]; exact (by apply blk_of; (repeat (first | with_reducible exact kR1 | with_reducible apply blk_drew | with_reducible apply blk_gw | with_reducible apply blk_alloc | with_reducible apply blk_set | ((with_reducible apply blk_other); focus omega))); (first | rfl | simp))
        have hbZ : Below w.heap.size w Z := by rw [hZ]; exact bBel
        clear hZ
        have okZ := blk_older kZ
        have ckZ_0 : _ = some _ := blk_cell kZ 0
        have ckZ_1 : _ = some _ := blk_cell kZ 1
        have fkZ_0 := blk_free kZ 0
        have fkZ_1 := blk_free kZ 1
        refine bodyPost_ret (v := .tuple #[.int .i64 0, .agg #[.int .i64 0, .int .i64 0], .bool false]) (by simp [results, Tryz.results11, go_sem, ckZ_0, ckZ_1]) rfl ⟨by rw [z0.out, z1.out, z2.out, z3.out], hbZ⟩
      · have hx := hhit c1 ho0
        rw [hH2.out] at hx
        have z0 : Hid (t = e0) := by injection hx
        have z1 : Hid (x = m1) := by injection hx
        have z2 : Hid (y = m2) := by injection hx
        have z3 : Hid (b = true) := by injection hx
        have b1 : (e0 == -1) = false := by rw [beq_eq_false_iff_ne]; exact c1
        clear hx hno hhit hnon hH2
        go_wp2_with fail
        refine wp_region_gw_tail 3 (by kernel_rfl) (by kernel_rfl) ?_
        simp only [List.take_succ_cons, List.take_zero, List.drop_succ_cons, List.drop_zero]
        repeat (go_big_quiet_step ((first | (go_at_call 20; exact gw_call (vsub_b _ _ _ _ _)) | (go_at_call 36; exact gw_call (cN _ (Pts.to hp bBel))) | (go_at_call 27; exact gw_call (dot_b _ _ _ _ _)) | (go_at_call 37; exact gw_call (div_b _ _ _)))))
        refine wpQuiet_nil ?_
        intro w1 hw1
        obtain ⟨q, rfl⟩ := hw1
        go_wp2_with fail
        (try rw [Exit.noGoto_ret]); refine post_named ?_
        intro Z hZ
        have kZ : blk Z (w.heap.size + 2) #[.int .i64 m1, .int .i64 m2] 27 := by rw [hZ]; exact (by apply blk_of; (repeat (first | with_reducible exact kR1 | with_reducible apply blk_drew | with_reducible apply blk_gw | with_reducible apply blk_alloc | with_reducible apply blk_set | ((with_reducible apply blk_other); focus omega))); (first | rfl | simp))
        have hbZ : Below w.heap.size w Z := by rw [hZ]; exact bBel
        clear hZ
        have okZ := blk_older kZ
        have ckZ_0 : _ = some _ := blk_cell kZ 0
        have ckZ_1 : _ = some _ := blk_cell kZ 1
        have fkZ_0 := blk_free kZ 0
        have fkZ_1 := blk_free kZ 1
        refine bodyPost_ret (v := .tuple #[.int .i64 e0, .agg #[.int .i64 m1, .int .i64 m2], .bool true]) (by simp [results, Tryz.results11, go_sem, ckZ_0, ckZ_1]) rfl ⟨by rw [z0.out, z1.out, z2.out, z3.out], hbZ⟩

end Go.Proofs.YtpdhfhcfjdnlpaaGreat
