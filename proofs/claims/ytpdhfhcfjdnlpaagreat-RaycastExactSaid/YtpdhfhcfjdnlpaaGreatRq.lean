/- Contracts of chapter 18's reference: CastPolygon. -/
import Derived.Test.YtpdhfhcfjdnlpaaGreatCoD
import Derived.Test.YtpdhfhcfjdnlpaaGreatFixQA
import Derived.Test.YtpdhfhcfjdnlpaaGreatRa
set_option linter.unusedVariables false
namespace Go.Proofs.YtpdhfhcfjdnlpaaGreat
open Go.RowKit Fx

theorem eNor_few {ps : List Pt} (h : ps.length < 2) (i : Int) : eNor ps i = (0, 0) := by unfold eNor; rw [if_neg fun c => by have := c.1; omega]

set_option maxRecDepth 100000 in
set_option maxHeartbeats 8000000 in
theorem rcp0_b (A : Option Addr) (cap : Nat) (ps : List (Int × Int)) (fx0 fy0 gx0 gy0 : Int) (hf : ps.length < 2) (w : World) : Calls Tryz.prog 15 #[.slice A ps.length cap, .agg #[.int .i64 fx0, .int .i64 fy0], .agg #[.int .i64 gx0, .int .i64 gy0]] w fun e w' => e = .returned (.tuple #[.int .i64 0, .agg #[.int .i64 0, .int .i64 0], .bool false]) ∧ Below w.heap.size w w' := by
  have cV := fun w' => rvsat_b fx0 fy0 w'
  have cW := fun w' => rvsat_b gx0 gy0 w'
  generalize sat fx0 = fx at *
  generalize sat fy0 = fy at *
  generalize sat gx0 = gx at *
  generalize sat gy0 = gy at *
  have cD := fun w' => rvsub_b gx gy fx fy w'
  generalize sub gx fx = dx at *
  generalize sub gy fy = dy at *
  have z0 : Hid ((0 : Int) = 0) := rfl
  have j1 : ¬ 1 < (ps.length : Int) := by omega
  go_enter Tryz.func15, Tryz.ntmps15
  go_upto_region 5 with (first | (go_at_call 44; (with_reducible show Calls _ _ #[.agg #[.int .i64 fx0, _]] _ _); refine Calls.mono (gw_at (cV _)) ?_; rintro e w1 ⟨rfl, qa, rfl⟩) | (go_at_call 44; (with_reducible show Calls _ _ #[.agg #[.int .i64 gx0, _]] _ _); refine Calls.mono (gw_at (cW _)) ?_; rintro e w1 ⟨rfl, qb, rfl⟩) | (go_at_call 41; refine Calls.mono (gw_at (cD _)) ?_; rintro e w1 ⟨rfl, qc, rfl⟩))
  refine wp_named ?_
  intro W hW
  have kR : blk W (w.heap.size + 2) #[.int .i64 0, .int .i64 0] 27 := by rw [hW]; exact bBkn
  have hbW : Below w.heap.size w W := by rw [hW]; exact bBel
  have hszW := hbW.size
  clear hW
  have okR := blk_older kR
  have ckR_0 : _ = some _ := blk_cell kR 0
  have ckR_1 : _ = some _ := blk_cell kR 1
  have fkR_0 := blk_free kR 0
  have fkR_1 := blk_free kR 1
  go_wp2_with fail
  go_loopw [12, 14] (fun e i wr => e = .int .i64 (-1) ∧ i = .int .i64 0 ∧ wr = W) (fun _ _ _ => 0)
  case atStart => exact ⟨rfl, rfl, rfl⟩
  case round =>
    obtain ⟨rfl, rfl, rfl⟩ := hrel
    by_cases hlt : 0 < (ps.length : Int)
    · go_wp2_with fail
      refine post_named ?_
      intro Z hZ
      have kZ : blk Z (w.heap.size + 2) #[.int .i64 0, .int .i64 0] 27 := by rw [hZ]; exact (by apply blk_of; (repeat (first | with_reducible exact kR | with_reducible apply blk_drew | with_reducible apply blk_gw | with_reducible apply blk_alloc | with_reducible apply blk_set | ((with_reducible apply blk_other); focus omega))); (first | rfl | simp))
      have hbZ : Below w.heap.size w Z := by rw [hZ]; exact bBel
      clear hZ
      have okZ := blk_older kZ
      have ckZ_0 : _ = some _ := blk_cell kZ 0
      have ckZ_1 : _ = some _ := blk_cell kZ 1
      have fkZ_0 := blk_free kZ 0
      have fkZ_1 := blk_free kZ 1
      refine bodyPost_ret (v := .tuple #[.int .i64 0, .agg #[.int .i64 0, .int .i64 0], .bool false]) (by simp [results, Tryz.results15, go_sem, ckZ_0, ckZ_1]) rfl ⟨rfl, hbZ⟩
    · go_wp2_with fail
      refine post_named ?_
      intro Z hZ
      have kZ : blk Z (w.heap.size + 2) #[.int .i64 0, .int .i64 0] 27 := by rw [hZ]; exact (by apply blk_of; (repeat (first | with_reducible exact kR | with_reducible apply blk_drew | with_reducible apply blk_gw | with_reducible apply blk_alloc | with_reducible apply blk_set | ((with_reducible apply blk_other); focus omega))); (first | rfl | simp))
      have hbZ : Below w.heap.size w Z := by rw [hZ]; exact bBel
      clear hZ
      have okZ := blk_older kZ
      have ckZ_0 : _ = some _ := blk_cell kZ 0
      have ckZ_1 : _ = some _ := blk_cell kZ 1
      have fkZ_0 := blk_free kZ 0
      have fkZ_1 := blk_free kZ 1
      refine bodyPost_ret (v := .tuple #[.int .i64 0, .agg #[.int .i64 0, .int .i64 0], .bool false]) (by simp [results, Tryz.results15, go_sem, ckZ_0, ckZ_1]) rfl ⟨rfl, hbZ⟩

set_option maxRecDepth 100000 in
set_option maxHeartbeats 16000000 in
theorem rcp18_b (A : Option Addr) (cap : Nat) (ps : List (Int × Int)) (fx0 fy0 gx0 gy0 t x y : Int) (b : Bool) (hl : ps.length ≤ 4611686018427387904) (hH0 : castP ps fx0 fy0 gx0 gy0 = ⟨t, x, y, b⟩) (w : World) (hp : Pts w A ps) : Calls Tryz.prog 15 #[.slice A ps.length cap, .agg #[.int .i64 fx0, .int .i64 fy0], .agg #[.int .i64 gx0, .int .i64 gy0]] w fun e w' => e = .returned (.tuple #[.int .i64 t, .agg #[.int .i64 x, .int .i64 y], .bool b]) ∧ Below w.heap.size w w' := by
  by_cases hf : ps.length < 2
  focus
    rw [castP_few _ _ _ _ hf] at hH0
    cases hH0
    exact rcp0_b A cap ps fx0 fy0 gx0 gy0 hf w
  have hH := castP_ss ps fx0 fy0 gx0 gy0
  rw [hH0] at hH
  clear hH0
  have cV := fun w' => rvsat_b fx0 fy0 w'
  have cW := fun w' => rvsat_b gx0 gy0 w'
  generalize sat fx0 = fx at *
  generalize sat fy0 = fy at *
  generalize sat gx0 = gx at *
  generalize sat gy0 = gy at *
  have cE := fun (k : Nat) w' h => rnor_b A cap ps k hl w' h
  have hX : Hid (∀ k (h : k < ps.length), rX ps fx fy k = dot (eNor ps k).1 (eNor ps k).2 (sub ps[k].1 fx) (sub ps[k].2 fy)) := fun k h => by rw [← hp_get h]; rfl
  have hY : Hid (∀ k : Nat, rY ps (sub gx fx) (sub gy fy) k = dot (eNor ps k).1 (eNor ps k).2 (sub gx fx) (sub gy fy)) := fun k => rfl
  unfold castP at hH
  obtain ⟨N, hN⟩ : ∃ N : Nat → Pt, (fun k : Nat => eNor ps (k : Int)) = N := ⟨_, rfl⟩
  have hNk : ∀ k : Nat, eNor ps (k : Int) = N k := fun k => by rw [← hN]
  simp only [hNk] at cE hX hY
  rw [hN] at hH
  clear hN hNk
  have cD := fun w' => rvsub_b gx gy fx fy w'
  generalize rX ps fx fy = X at *
  generalize rY ps (sub gx fx) (sub gy fy) = Y at *
  generalize sub gx fx = dx at *
  generalize sub gy fy = dy at *
  have hno : cstF X Y N ps.length = .no → Hid (t = 0) ∧ Hid (x = 0) ∧ Hid (y = 0) ∧ Hid (b = false) := fun h => by rw [hH] at h; injection h; exact ⟨by assumption, by assumption, by assumption, by assumption⟩
  have hH2 : Hid (cstF X Y N ps.length = ⟨t, x, y, b⟩) := hH
  clear hH
  have j2 : 1 < (ps.length : Int) := by omega
  clear hf
  go_enter Tryz.func15, Tryz.ntmps15
  go_upto_region 5 with (first | (go_at_call 44; (with_reducible show Calls _ _ #[.agg #[.int .i64 fx0, _]] _ _); refine Calls.mono (gw_at (cV _)) ?_; rintro e w1 ⟨rfl, qa, rfl⟩) | (go_at_call 44; (with_reducible show Calls _ _ #[.agg #[.int .i64 gx0, _]] _ _); refine Calls.mono (gw_at (cW _)) ?_; rintro e w1 ⟨rfl, qb, rfl⟩) | (go_at_call 41; refine Calls.mono (gw_at (cD _)) ?_; rintro e w1 ⟨rfl, qc, rfl⟩))
  refine wp_named ?_
  intro W hW
  have kF : blk W w.heap.size #[.int .i64 fx, .int .i64 fy] 27 := by rw [hW]; exact bBkn
  have kR : blk W (w.heap.size + 2) #[.int .i64 0, .int .i64 0] 27 := by rw [hW]; exact bBkn
  have kD : blk W (w.heap.size + 1 + 1 + 1 + qa.os.size + qb.os.size + qc.os.size) #[.int .i64 dx, .int .i64 dy] 27 := by rw [hW]; exact bBkn
  have hbW : Below w.heap.size w W := by rw [hW]; exact bBel
  have hszW := hbW.size
  have g1 : w.heap.size + 2 < w.heap.size + 1 + 1 + 1 + qa.os.size + qb.os.size + qc.os.size := by omega
  clear hW cD cV cW
  generalize w.heap.size + 1 + 1 + 1 + qa.os.size + qb.os.size + qc.os.size = BD at *
  go_wp2_with fail
  go_loopw [10, 11, 12, 13, 14] (fun e o ed ou i wr => ∃ (k : Nat) (en ex dg : Int) (ot : Bool), k ≤ ps.length ∧ e = .int .i64 en ∧ o = .int .i64 ex ∧ ed = .int .i64 dg ∧ ou = .bool ot ∧ i = .int .i64 (k : Int) ∧ bdF X Y k = false ∧ RI X Y N k dg en ex ot ∧ blk wr w.heap.size #[.int .i64 fx, .int .i64 fy] 27 ∧ blk wr (w.heap.size + 2) #[.int .i64 0, .int .i64 0] 27 ∧ blk wr BD #[.int .i64 dx, .int .i64 dy] 27 ∧ Below w.heap.size w wr)
    (fun _ _ _ _ i _ => (ps.length - intOf i).toNat)
  case atStart => exact ⟨0, 0, 0, -1, false, by omega, rfl, rfl, rfl, rfl, rfl, rfl, ri_zero, kF, kR, kD, hbW⟩
  case round =>
    obtain ⟨k, en, ex, dg, ot, hk, rfl, rfl, rfl, rfl, rfl, hb0, hri, kF1, kR1, kD1, hbR⟩ := hrel
    have hszR := hbR.size
    clear kF kR kD hbW hszW
    have okF1 := blk_older kF1
    have ckF1_0 : _ = some _ := blk_cell kF1 0
    have ckF1_1 : _ = some _ := blk_cell kF1 1
    have fkF1_0 := blk_free kF1 0
    have fkF1_1 := blk_free kF1 1
    have okR1 := blk_older kR1
    have ckR1_0 : _ = some _ := blk_cell kR1 0
    have ckR1_1 : _ = some _ := blk_cell kR1 1
    have fkR1_0 := blk_free kR1 0
    have fkR1_1 := blk_free kR1 1
    have okD1 := blk_older kD1
    have ckD1_0 : _ = some _ := blk_cell kD1 0
    have ckD1_1 : _ = some _ := blk_cell kD1 1
    have fkD1_0 := blk_free kD1 0
    have fkD1_1 := blk_free kD1 1
    by_cases hlt : k < ps.length
    · have j0 : (0 : Int) ≤ (k : Int) := by omega
      have j1 : (k : Int) < (ps.length : Int) := by omega
      have hXk : Hid _ := hX.out k hlt
      have hYk : Hid _ := hY.out k
      obtain ⟨b2, off2, hA2, hc2⟩ := pts_open0 (Pts.to hp hbR) (by omega)
      subst hA2
      have hcU : ∀ w', Below w.heap.size w w' → w'.cell? ⟨b2, off2 + k * 2, none⟩ = some (.int .i64 ps[k].1) ∧ w'.cell? ⟨b2, off2 + k * 2 + 1, none⟩ = some (.int .i64 ps[k].2) := fun w' h => by
        rcases Pts.to hp h with h0 | ⟨b3, off3, e3, hc⟩
        · rw [h0] at hlt; simp at hlt
        · injection e3 with e3; injection e3 with e4 e5; subst e4; subst e5
          exact hc k hlt
      clear hc2
      have cE1 := cE k
      obtain ⟨n, hn⟩ : ∃ n, Hid (N k = n) := ⟨_, rfl⟩
      rw [hn.out] at cE1 hXk hYk
      obtain ⟨n1, n2⟩ := n
      dsimp only at cE1 hXk hYk
      have cS := fun w' => rvsub_b ps[k].1 ps[k].2 fx fy w'
      generalize ps[k].1 = u at *
      generalize ps[k].2 = v at *
      generalize sub u fx = su at *
      generalize sub v fy = sv at *
      have cX := fun w' => rdot_b n1 n2 su sv w'
      have cY := fun w' => rdot_b n1 n2 dx dy w'
      rw [← hXk.out] at cX
      rw [← hYk.out] at cY
      clear hXk hYk
      have hbad := @cst_bad X Y N k ps.length hlt
      have hbno : ¬ (Y k = 0 ∧ X k < 0) → Hid (bdF X Y (k + 1) = false) := fun h => @bd_no X Y k hb0 h
      have hr1 : Y k = 0 → Hid (RI X Y N (k + 1) dg en ex ot) := fun h => ri_par hri h
      have hr2 : Y k < 0 → (dg < 0 ∨ en < quo (X k) (Y k)) → Hid (RI X Y N (k + 1) (k : Int) (quo (X k) (Y k)) ex ot) := fun h1 h2 => ri_in hri h1 h2
      have hr3 : Y k < 0 → ¬ (dg < 0 ∨ en < quo (X k) (Y k)) → Hid (RI X Y N (k + 1) dg en ex ot) := fun h1 h2 => ri_in2 hri h1 h2
      have hr4 : 0 < Y k → (ot = false ∨ quo (X k) (Y k) < ex) → Hid (RI X Y N (k + 1) dg en (quo (X k) (Y k)) true) := fun h1 h2 => ri_out hri h1 h2
      have hr5 : 0 < Y k → ¬ (ot = false ∨ quo (X k) (Y k) < ex) → Hid (RI X Y N (k + 1) dg en ex ot) := fun h1 h2 => ri_out2 hri h1 h2
      have cQ := fun w' => rdiv_b (X k) (Y k) w'
      generalize X k = xk at *
      generalize Y k = yk at *
      generalize quo xk yk = qk at *
      clear hri
      go_upto_region 10 with (go_at_call 52; refine Calls.mono (gw_at (cE1 _ (Pts.to hp bBel))) ?_; rintro e w1 ⟨rfl, q2, rfl⟩)
      refine wp_named ?_
      intro V hV
      have kF2 : blk V w.heap.size #[.int .i64 fx, .int .i64 fy] 27 := by rw [hV]; exact (by apply blk_of; (repeat (first | with_reducible exact kF1 | with_reducible apply blk_drew | with_reducible apply blk_gw | with_reducible apply blk_alloc | with_reducible apply blk_set | ((with_reducible apply blk_other); focus omega))); (first | rfl | simp))
      have kR2 : blk V (w.heap.size + 2) #[.int .i64 0, .int .i64 0] 27 := by rw [hV]; exact (by apply blk_of; (repeat (first | with_reducible exact kR1 | with_reducible apply blk_drew | with_reducible apply blk_gw | with_reducible apply blk_alloc | with_reducible apply blk_set | ((with_reducible apply blk_other); focus omega))); (first | rfl | simp))
      have kD2 : blk V BD #[.int .i64 dx, .int .i64 dy] 27 := by rw [hV]; exact (by apply blk_of; (repeat (first | with_reducible exact kD1 | with_reducible apply blk_drew | with_reducible apply blk_gw | with_reducible apply blk_alloc | with_reducible apply blk_set | ((with_reducible apply blk_other); focus omega))); (first | rfl | simp))
      have kn2 : blk V (wr.heap.size + q2.os.size) #[.int .i64 n1, .int .i64 n2] 27 := by rw [hV]; exact bBkn
      have hbV : Below w.heap.size w V := by rw [hV]; exact bBel
      have hszV := hbV.size
      clear hV kF1 kR1 kD1 okF1 ckF1_0 ckF1_1 fkF1_0 fkF1_1 okR1 ckR1_0 ckR1_1 fkR1_0 fkR1_1 okD1 ckD1_0 ckD1_1 fkD1_0 fkD1_1 cE cE1
      generalize wr.heap.size + q2.os.size = Bn at *
      obtain ⟨d0, d1⟩ := hcU V hbV
      have ob := older_of_cell d0
      clear hcU
      have okF2 := blk_older kF2
      have ckF2_0 : _ = some _ := blk_cell kF2 0
      have ckF2_1 : _ = some _ := blk_cell kF2 1
      have fkF2_0 := blk_free kF2 0
      have fkF2_1 := blk_free kF2 1
      have okR2 := blk_older kR2
      have ckR2_0 : _ = some _ := blk_cell kR2 0
      have ckR2_1 : _ = some _ := blk_cell kR2 1
      have fkR2_0 := blk_free kR2 0
      have fkR2_1 := blk_free kR2 1
      have okD2 := blk_older kD2
      have ckD2_0 : _ = some _ := blk_cell kD2 0
      have ckD2_1 : _ = some _ := blk_cell kD2 1
      have fkD2_0 := blk_free kD2 0
      have fkD2_1 := blk_free kD2 1
      have okn2 := blk_older kn2
      have ckn2_0 : _ = some _ := blk_cell kn2 0
      have ckn2_1 : _ = some _ := blk_cell kn2 1
      have fkn2_0 := blk_free kn2 0
      have fkn2_1 := blk_free kn2 1
      refine wp_region_gw (by kernel_rfl) (by kernel_rfl) ?_
      repeat (go_big_quiet_step ((first | (go_at_call 41; with_reducible_and_instances exact gw_call (cS _)) | (go_at_call 48; with_reducible_and_instances exact gw_call (cX _)))))
      refine wpQuiet_nil ?_
      intro w1 hw1
      obtain ⟨q, rfl⟩ := hw1
      go_upto_region 12 with (go_at_call 48; refine Calls.mono (gw_at (cY _)) ?_; rintro e w1 ⟨rfl, q3, rfl⟩)
      refine wp_named ?_
      intro U hU
      have kF3 : blk U w.heap.size #[.int .i64 fx, .int .i64 fy] 27 := by rw [hU]; exact (by apply blk_of; (repeat (first | with_reducible exact kF2 | with_reducible apply blk_drew | with_reducible apply blk_gw | with_reducible apply blk_alloc | with_reducible apply blk_set | ((with_reducible apply blk_other); focus omega))); (first | rfl | simp))
      have kR3 : blk U (w.heap.size + 2) #[.int .i64 0, .int .i64 0] 27 := by rw [hU]; exact (by apply blk_of; (repeat (first | with_reducible exact kR2 | with_reducible apply blk_drew | with_reducible apply blk_gw | with_reducible apply blk_alloc | with_reducible apply blk_set | ((with_reducible apply blk_other); focus omega))); (first | rfl | simp))
      have kD3 : blk U BD #[.int .i64 dx, .int .i64 dy] 27 := by rw [hU]; exact (by apply blk_of; (repeat (first | with_reducible exact kD2 | with_reducible apply blk_drew | with_reducible apply blk_gw | with_reducible apply blk_alloc | with_reducible apply blk_set | ((with_reducible apply blk_other); focus omega))); (first | rfl | simp))
      have hbU : Below w.heap.size w U := by rw [hU]; exact bBel
      have hszU := hbU.size
      clear hU kF2 kR2 kD2 kn2 okF2 ckF2_0 ckF2_1 fkF2_0 fkF2_1 okR2 ckR2_0 ckR2_1 fkR2_0 fkR2_1 okD2 ckD2_0 ckD2_1 fkD2_0 fkD2_1 okn2 ckn2_0 ckn2_1 fkn2_0 fkn2_1 cS cX cY d0 d1 ob
      have okR3 := blk_older kR3
      have ckR3_0 : _ = some _ := blk_cell kR3 0
      have ckR3_1 : _ = some _ := blk_cell kR3 1
      have fkR3_0 := blk_free kR3 0
      have fkR3_1 := blk_free kR3 1
      by_cases c0 : yk = 0
      · subst c0
        have hr := hr1 rfl
        clear hr1 hr2 hr3 hr4 hr5
        by_cases c3 : xk < 0
        · obtain ⟨z0, z1, z2, z3⟩ := hno (hbad rfl c3)
          clear hno hbad hbno
          go_wp2_with fail
          refine post_named ?_
          intro Z hZ
          have kZ : blk Z (w.heap.size + 2) #[.int .i64 0, .int .i64 0] 27 := by rw [hZ]; exact (by apply blk_of; (repeat (first | with_reducible exact kR3 | with_reducible apply blk_drew | with_reducible apply blk_gw | with_reducible apply blk_alloc | with_reducible apply blk_set | ((with_reducible apply blk_other); focus omega))); (first | rfl | simp))
          have hbZ : Below w.heap.size w Z := by rw [hZ]; exact bBel
          clear hZ
          have okZ := blk_older kZ
          have ckZ_0 : _ = some _ := blk_cell kZ 0
          have ckZ_1 : _ = some _ := blk_cell kZ 1
          have fkZ_0 := blk_free kZ 0
          have fkZ_1 := blk_free kZ 1
          refine bodyPost_ret (v := .tuple #[.int .i64 0, .agg #[.int .i64 0, .int .i64 0], .bool false]) (by simp [results, Tryz.results15, go_sem, ckZ_0, ckZ_1]) rfl ⟨by rw [z0.out, z1.out, z2.out, z3.out], hbZ⟩
        · have hb1 := hbno fun h => c3 h.2
          clear hno hbad hbno
          go_wp2_with (go_at_call 53; refine Calls.mono (gw_at (cQ _)) ?_; rintro e w1 ⟨rfl, q5, rfl⟩)
          exact ⟨⟨k + 1, en, ex, dg, ot, by omega, rfl, rfl, rfl, rfl, by go_num, hb1.out, hr.out, (by apply blk_of; (repeat (first | with_reducible exact kF3 | with_reducible apply blk_drew | with_reducible apply blk_gw | with_reducible apply blk_alloc | with_reducible apply blk_set | ((with_reducible apply blk_other); focus omega))); (first | rfl | simp)), (by apply blk_of; (repeat (first | with_reducible exact kR3 | with_reducible apply blk_drew | with_reducible apply blk_gw | with_reducible apply blk_alloc | with_reducible apply blk_set | ((with_reducible apply blk_other); focus omega))); (first | rfl | simp)), (by apply blk_of; (repeat (first | with_reducible exact kD3 | with_reducible apply blk_drew | with_reducible apply blk_gw | with_reducible apply blk_alloc | with_reducible apply blk_set | ((with_reducible apply blk_other); focus omega))); (first | rfl | simp)), bBel⟩, by (try go_num); simp [intOf]; (try omega)⟩
      have b0 : (yk == 0) = false := by rw [beq_eq_false_iff_ne]; exact c0
      have hb1 := hbno fun h => c0 h.1
      clear hr1 hno hbad hbno c0
      by_cases c1 : yk < 0
      · have c2 : ¬ 0 < yk := by omega
        by_cases c3 : dg < 0
        · have hr := hr2 c1 (.inl c3)
          clear hr2 hr3 hr4 hr5
          go_wp2_with (go_at_call 53; refine Calls.mono (gw_at (cQ _)) ?_; rintro e w1 ⟨rfl, q5, rfl⟩)
          exact ⟨⟨k + 1, qk, ex, (k : Int), ot, by omega, rfl, rfl, rfl, rfl, by go_num, hb1.out, hr.out, (by apply blk_of; (repeat (first | with_reducible exact kF3 | with_reducible apply blk_drew | with_reducible apply blk_gw | with_reducible apply blk_alloc | with_reducible apply blk_set | ((with_reducible apply blk_other); focus omega))); (first | rfl | simp)), (by apply blk_of; (repeat (first | with_reducible exact kR3 | with_reducible apply blk_drew | with_reducible apply blk_gw | with_reducible apply blk_alloc | with_reducible apply blk_set | ((with_reducible apply blk_other); focus omega))); (first | rfl | simp)), (by apply blk_of; (repeat (first | with_reducible exact kD3 | with_reducible apply blk_drew | with_reducible apply blk_gw | with_reducible apply blk_alloc | with_reducible apply blk_set | ((with_reducible apply blk_other); focus omega))); (first | rfl | simp)), bBel⟩, by (try go_num); simp [intOf]; (try omega)⟩
        · by_cases c4 : en < qk
          · have hr := hr2 c1 (.inr c4)
            clear hr2 hr3 hr4 hr5
            go_wp2_with (go_at_call 53; refine Calls.mono (gw_at (cQ _)) ?_; rintro e w1 ⟨rfl, q5, rfl⟩)
            exact ⟨⟨k + 1, qk, ex, (k : Int), ot, by omega, rfl, rfl, rfl, rfl, by go_num, hb1.out, hr.out, (by apply blk_of; (repeat (first | with_reducible exact kF3 | with_reducible apply blk_drew | with_reducible apply blk_gw | with_reducible apply blk_alloc | with_reducible apply blk_set | ((with_reducible apply blk_other); focus omega))); (first | rfl | simp)), (by apply blk_of; (repeat (first | with_reducible exact kR3 | with_reducible apply blk_drew | with_reducible apply blk_gw | with_reducible apply blk_alloc | with_reducible apply blk_set | ((with_reducible apply blk_other); focus omega))); (first | rfl | simp)), (by apply blk_of; (repeat (first | with_reducible exact kD3 | with_reducible apply blk_drew | with_reducible apply blk_gw | with_reducible apply blk_alloc | with_reducible apply blk_set | ((with_reducible apply blk_other); focus omega))); (first | rfl | simp)), bBel⟩, by (try go_num); simp [intOf]; (try omega)⟩
          · have hr := hr3 c1 (by omega)
            clear hr2 hr3 hr4 hr5
            go_wp2_with (go_at_call 53; refine Calls.mono (gw_at (cQ _)) ?_; rintro e w1 ⟨rfl, q5, rfl⟩)
            exact ⟨⟨k + 1, en, ex, dg, ot, by omega, rfl, rfl, rfl, rfl, by go_num, hb1.out, hr.out, (by apply blk_of; (repeat (first | with_reducible exact kF3 | with_reducible apply blk_drew | with_reducible apply blk_gw | with_reducible apply blk_alloc | with_reducible apply blk_set | ((with_reducible apply blk_other); focus omega))); (first | rfl | simp)), (by apply blk_of; (repeat (first | with_reducible exact kR3 | with_reducible apply blk_drew | with_reducible apply blk_gw | with_reducible apply blk_alloc | with_reducible apply blk_set | ((with_reducible apply blk_other); focus omega))); (first | rfl | simp)), (by apply blk_of; (repeat (first | with_reducible exact kD3 | with_reducible apply blk_drew | with_reducible apply blk_gw | with_reducible apply blk_alloc | with_reducible apply blk_set | ((with_reducible apply blk_other); focus omega))); (first | rfl | simp)), bBel⟩, by (try go_num); simp [intOf]; (try omega)⟩
      · have c2 : 0 < yk := by
          have : yk ≠ 0 := by rw [beq_eq_false_iff_ne] at b0; exact b0
          omega
        clear hr2 hr3
        cases ot
        · have hr := hr4 c2 (.inl rfl)
          clear hr4 hr5
          go_wp2_with (go_at_call 53; refine Calls.mono (gw_at (cQ _)) ?_; rintro e w1 ⟨rfl, q5, rfl⟩)
          exact ⟨⟨k + 1, en, qk, dg, true, by omega, rfl, rfl, rfl, rfl, by go_num, hb1.out, hr.out, (by apply blk_of; (repeat (first | with_reducible exact kF3 | with_reducible apply blk_drew | with_reducible apply blk_gw | with_reducible apply blk_alloc | with_reducible apply blk_set | ((with_reducible apply blk_other); focus omega))); (first | rfl | simp)), (by apply blk_of; (repeat (first | with_reducible exact kR3 | with_reducible apply blk_drew | with_reducible apply blk_gw | with_reducible apply blk_alloc | with_reducible apply blk_set | ((with_reducible apply blk_other); focus omega))); (first | rfl | simp)), (by apply blk_of; (repeat (first | with_reducible exact kD3 | with_reducible apply blk_drew | with_reducible apply blk_gw | with_reducible apply blk_alloc | with_reducible apply blk_set | ((with_reducible apply blk_other); focus omega))); (first | rfl | simp)), bBel⟩, by (try go_num); simp [intOf]; (try omega)⟩
        · by_cases c4 : qk < ex
          · have hr := hr4 c2 (.inr c4)
            clear hr4 hr5
            go_wp2_with (go_at_call 53; refine Calls.mono (gw_at (cQ _)) ?_; rintro e w1 ⟨rfl, q5, rfl⟩)
            exact ⟨⟨k + 1, en, qk, dg, true, by omega, rfl, rfl, rfl, rfl, by go_num, hb1.out, hr.out, (by apply blk_of; (repeat (first | with_reducible exact kF3 | with_reducible apply blk_drew | with_reducible apply blk_gw | with_reducible apply blk_alloc | with_reducible apply blk_set | ((with_reducible apply blk_other); focus omega))); (first | rfl | simp)), (by apply blk_of; (repeat (first | with_reducible exact kR3 | with_reducible apply blk_drew | with_reducible apply blk_gw | with_reducible apply blk_alloc | with_reducible apply blk_set | ((with_reducible apply blk_other); focus omega))); (first | rfl | simp)), (by apply blk_of; (repeat (first | with_reducible exact kD3 | with_reducible apply blk_drew | with_reducible apply blk_gw | with_reducible apply blk_alloc | with_reducible apply blk_set | ((with_reducible apply blk_other); focus omega))); (first | rfl | simp)), bBel⟩, by (try go_num); simp [intOf]; (try omega)⟩
          · have hr := hr5 c2 (by rintro (h | h); cases h; exact c4 h)
            clear hr4 hr5
            go_wp2_with (go_at_call 53; refine Calls.mono (gw_at (cQ _)) ?_; rintro e w1 ⟨rfl, q5, rfl⟩)
            exact ⟨⟨k + 1, en, ex, dg, true, by omega, rfl, rfl, rfl, rfl, by go_num, hb1.out, hr.out, (by apply blk_of; (repeat (first | with_reducible exact kF3 | with_reducible apply blk_drew | with_reducible apply blk_gw | with_reducible apply blk_alloc | with_reducible apply blk_set | ((with_reducible apply blk_other); focus omega))); (first | rfl | simp)), (by apply blk_of; (repeat (first | with_reducible exact kR3 | with_reducible apply blk_drew | with_reducible apply blk_gw | with_reducible apply blk_alloc | with_reducible apply blk_set | ((with_reducible apply blk_other); focus omega))); (first | rfl | simp)), (by apply blk_of; (repeat (first | with_reducible exact kD3 | with_reducible apply blk_drew | with_reducible apply blk_gw | with_reducible apply blk_alloc | with_reducible apply blk_set | ((with_reducible apply blk_other); focus omega))); (first | rfl | simp)), bBel⟩, by (try go_num); simp [intOf]; (try omega)⟩
    · obtain rfl : k = ps.length := by omega
      have j1 : ¬ (ps.length : Int) < (ps.length : Int) := by omega
      have hnone : (dg < 0 ∨ en < 0 ∨ 65536 < en ∨ (ot = true ∧ ex < en)) → Hid (t = 0) ∧ Hid (x = 0) ∧ Hid (y = 0) ∧ Hid (b = false) := fun h => hno (ri_none hri h)
      by_cases c1 : dg < 0
      · obtain ⟨z0, z1, z2, z3⟩ := hnone (.inl c1)
        clear hno hnone
        go_wp2_with fail
        refine post_named ?_
        intro Z hZ
        have kZ : blk Z (w.heap.size + 2) #[.int .i64 0, .int .i64 0] 27 := by rw [hZ]; exact (by apply blk_of; (repeat (first | with_reducible exact kR1 | with_reducible apply blk_drew | with_reducible apply blk_gw | with_reducible apply blk_alloc | with_reducible apply blk_set | ((with_reducible apply blk_other); focus omega))); (first | rfl | simp))
        have hbZ : Below w.heap.size w Z := by rw [hZ]; exact bBel
        clear hZ
        have okZ := blk_older kZ
        have ckZ_0 : _ = some _ := blk_cell kZ 0
        have ckZ_1 : _ = some _ := blk_cell kZ 1
        have fkZ_0 := blk_free kZ 0
        have fkZ_1 := blk_free kZ 1
        refine bodyPost_ret (v := .tuple #[.int .i64 0, .agg #[.int .i64 0, .int .i64 0], .bool false]) (by simp [results, Tryz.results15, go_sem, ckZ_0, ckZ_1]) rfl ⟨by rw [z0.out, z1.out, z2.out, z3.out], hbZ⟩
      by_cases c2 : en < 0
      · obtain ⟨z0, z1, z2, z3⟩ := hnone (.inr (.inl c2))
        clear hno hnone
        go_wp2_with fail
        refine post_named ?_
        intro Z hZ
        have kZ : blk Z (w.heap.size + 2) #[.int .i64 0, .int .i64 0] 27 := by rw [hZ]; exact (by apply blk_of; (repeat (first | with_reducible exact kR1 | with_reducible apply blk_drew | with_reducible apply blk_gw | with_reducible apply blk_alloc | with_reducible apply blk_set | ((with_reducible apply blk_other); focus omega))); (first | rfl | simp))
        have hbZ : Below w.heap.size w Z := by rw [hZ]; exact bBel
        clear hZ
        have okZ := blk_older kZ
        have ckZ_0 : _ = some _ := blk_cell kZ 0
        have ckZ_1 : _ = some _ := blk_cell kZ 1
        have fkZ_0 := blk_free kZ 0
        have fkZ_1 := blk_free kZ 1
        refine bodyPost_ret (v := .tuple #[.int .i64 0, .agg #[.int .i64 0, .int .i64 0], .bool false]) (by simp [results, Tryz.results15, go_sem, ckZ_0, ckZ_1]) rfl ⟨by rw [z0.out, z1.out, z2.out, z3.out], hbZ⟩
      by_cases c3 : 65536 < en
      · obtain ⟨z0, z1, z2, z3⟩ := hnone (.inr (.inr (.inl c3)))
        clear hno hnone
        go_wp2_with fail
        refine post_named ?_
        intro Z hZ
        have kZ : blk Z (w.heap.size + 2) #[.int .i64 0, .int .i64 0] 27 := by rw [hZ]; exact (by apply blk_of; (repeat (first | with_reducible exact kR1 | with_reducible apply blk_drew | with_reducible apply blk_gw | with_reducible apply blk_alloc | with_reducible apply blk_set | ((with_reducible apply blk_other); focus omega))); (first | rfl | simp))
        have hbZ : Below w.heap.size w Z := by rw [hZ]; exact bBel
        clear hZ
        have okZ := blk_older kZ
        have ckZ_0 : _ = some _ := blk_cell kZ 0
        have ckZ_1 : _ = some _ := blk_cell kZ 1
        have fkZ_0 := blk_free kZ 0
        have fkZ_1 := blk_free kZ 1
        refine bodyPost_ret (v := .tuple #[.int .i64 0, .agg #[.int .i64 0, .int .i64 0], .bool false]) (by simp [results, Tryz.results15, go_sem, ckZ_0, ckZ_1]) rfl ⟨by rw [z0.out, z1.out, z2.out, z3.out], hbZ⟩
      have hend : ¬ (ot = true ∧ ex < en) → ∃ j : Nat, dg = (j : Int) ∧ j < ps.length ∧ Hid (t = en) ∧ Hid (x = (N j).1) ∧ Hid (y = (N j).2) ∧ Hid (b = true) := fun h => by
        obtain ⟨j, e1, e2, e3⟩ := ri_hit hri hb0 (by rintro (g | g | g | g); omega; omega; omega; exact h g)
        rw [hH2.out] at e3
        injection e3 with f1 f2 f3 f4
        exact ⟨j, e1, e2, f1, f2, f3, f4⟩
      clear hri hb0
      cases ot
      · obtain ⟨j, rfl, hj, z0, z1, z2, z3⟩ := hend (by rintro ⟨h, -⟩; cases h)
        clear hend hno hnone
        have cE1 := cE j
        generalize (N j).1 = m1 at *
        generalize (N j).2 = m2 at *
        go_wp2_with (go_at_call 52; refine Calls.mono (gw_at (cE1 _ (Pts.to hp bBel))) ?_; rintro e w1 ⟨rfl, q2, rfl⟩)
        refine post_named ?_
        intro Z hZ
        have kZ : blk Z (w.heap.size + 2) #[.int .i64 m1, .int .i64 m2] 27 := by rw [hZ]; exact (by apply blk_of; (repeat (first | with_reducible exact kR1 | with_reducible apply blk_drew | with_reducible apply blk_gw | with_reducible apply blk_alloc | with_reducible apply blk_set | ((with_reducible apply blk_other); focus omega))); (first | rfl | simp))
        have hbZ : Below w.heap.size w Z := by rw [hZ]; exact bBel
        clear hZ
        have okZ := blk_older kZ
        have ckZ_0 : _ = some _ := blk_cell kZ 0
        have ckZ_1 : _ = some _ := blk_cell kZ 1
        have fkZ_0 := blk_free kZ 0
        have fkZ_1 := blk_free kZ 1
        refine bodyPost_ret (v := .tuple #[.int .i64 en, .agg #[.int .i64 m1, .int .i64 m2], .bool true]) (by simp [results, Tryz.results15, go_sem, ckZ_0, ckZ_1]) rfl ⟨by rw [z0.out, z1.out, z2.out, z3.out], hbZ⟩
      · by_cases c4 : ex < en
        · obtain ⟨z0, z1, z2, z3⟩ := hnone (.inr (.inr (.inr ⟨rfl, c4⟩)))
          clear hno hnone hend
          go_wp2_with fail
          refine post_named ?_
          intro Z hZ
          have kZ : blk Z (w.heap.size + 2) #[.int .i64 0, .int .i64 0] 27 := by rw [hZ]; exact (by apply blk_of; (repeat (first | with_reducible exact kR1 | with_reducible apply blk_drew | with_reducible apply blk_gw | with_reducible apply blk_alloc | with_reducible apply blk_set | ((with_reducible apply blk_other); focus omega))); (first | rfl | simp))
          have hbZ : Below w.heap.size w Z := by rw [hZ]; exact bBel
          clear hZ
          have okZ := blk_older kZ
          have ckZ_0 : _ = some _ := blk_cell kZ 0
          have ckZ_1 : _ = some _ := blk_cell kZ 1
          have fkZ_0 := blk_free kZ 0
          have fkZ_1 := blk_free kZ 1
          refine bodyPost_ret (v := .tuple #[.int .i64 0, .agg #[.int .i64 0, .int .i64 0], .bool false]) (by simp [results, Tryz.results15, go_sem, ckZ_0, ckZ_1]) rfl ⟨by rw [z0.out, z1.out, z2.out, z3.out], hbZ⟩
        · obtain ⟨j, rfl, hj, z0, z1, z2, z3⟩ := hend (by rintro ⟨-, h⟩; exact c4 h)
          clear hend hno hnone
          have cE1 := cE j
          generalize (N j).1 = m1 at *
          generalize (N j).2 = m2 at *
          go_wp2_with (go_at_call 52; refine Calls.mono (gw_at (cE1 _ (Pts.to hp bBel))) ?_; rintro e w1 ⟨rfl, q2, rfl⟩)
          refine post_named ?_
          intro Z hZ
          have kZ : blk Z (w.heap.size + 2) #[.int .i64 m1, .int .i64 m2] 27 := by rw [hZ]; exact (by apply blk_of; (repeat (first | with_reducible exact kR1 | with_reducible apply blk_drew | with_reducible apply blk_gw | with_reducible apply blk_alloc | with_reducible apply blk_set | ((with_reducible apply blk_other); focus omega))); (first | rfl | simp))
          have hbZ : Below w.heap.size w Z := by rw [hZ]; exact bBel
          clear hZ
          have okZ := blk_older kZ
          have ckZ_0 : _ = some _ := blk_cell kZ 0
          have ckZ_1 : _ = some _ := blk_cell kZ 1
          have fkZ_0 := blk_free kZ 0
          have fkZ_1 := blk_free kZ 1
          refine bodyPost_ret (v := .tuple #[.int .i64 en, .agg #[.int .i64 m1, .int .i64 m2], .bool true]) (by simp [results, Tryz.results15, go_sem, ckZ_0, ckZ_1]) rfl ⟨by rw [z0.out, z1.out, z2.out, z3.out], hbZ⟩

end Go.Proofs.YtpdhfhcfjdnlpaaGreat
