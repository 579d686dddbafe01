/- Contracts of chapter 16's reference: segments (ManifoldCollide). -/
import Derived.Test.YtiecpebckmihgaaGreatMnO
import Derived.Test.YtiecpebckmihgaaGreatMnZ
set_option linter.unusedVariables false
namespace Go.Proofs.YtiecpebckmihgaaGreat
open Go.RowKit Fx

set_option maxRecDepth 100000 in
set_option maxHeartbeats 16000000 in
theorem rseg16_b (R S : Int) (A B_ : Option Addr) (ca cb m n : Nat) (ps qs : List (Int × Int)) (hm : ps.length = m + 1) (hn : qs.length = n + 1) (hl : m ≤ 1000) (hk : n ≤ 1000) (M : Mn) (hM : (segM (cps (hp' ps 0).1 (hp' ps 0).2 (hp' ps m).1 (hp' ps m).2 (hp' qs 0).1 (hp' qs 0).2 (hp' qs n).1 (hp' qs n).2) R S).nz = M) (w : World) (ha : Pts w A ps) (hb : Pts w B_ qs) :
    Calls Tryz.prog 28 #[.slice A (m + 1) ca, .int .i64 R, .slice B_ (n + 1) cb, .int .i64 S] w (MnT w M (decide (M.l ≠ []))) := by
  have cP := fun w' => rcps_b (hp' ps 0).1 (hp' ps 0).2 (hp' ps m).1 (hp' ps m).2 (hp' qs 0).1 (hp' qs 0).2 (hp' qs n).1 (hp' qs n).2 w'
  generalize cps (hp' ps 0).1 (hp' ps 0).2 (hp' ps m).1 (hp' ps m).2 (hp' qs 0).1 (hp' qs 0).2 (hp' qs n).1 (hp' qs n).2 = P at *
  obtain ⟨px, py, qx, qy⟩ := P
  dsimp only at cP
  have cS := fun w' => rvsub_b qx qy px py w'
  have cL := fun w' => rvlen_b (sub qx px) (sub qy py) w'
  have cN := fun w' => rvnorm_b (sub qx px) (sub qy py) w'
  have c1 := fun w' => rsub_b (vlen (sub qx px) (sub qy py)) R w'
  have c2 := fun w' => rsub_b (sub (vlen (sub qx px) (sub qy py)) R) S w'
  have hG : segG (sub qx px, sub qy py) R S = sub (sub (vlen (sub qx px) (sub qy py)) R) S := rfl
  rw [← hG] at c2
  clear hG
  have c3 := fun w' => rrd_b (segG (sub qx px, sub qy py) R S) 2 w'
  have c4 := fun w' => radd_b R (rdiv (segG (sub qx px, sub qy py) R S) 2) w'
  have hN : Hid ((vlen (sub qx px) (sub qy py) = 0 ∧ (segN (sub qx px, sub qy py)).1 = 0 ∧ (segN (sub qx px, sub qy py)).2 = 65536) ∨ (¬ vlen (sub qx px) (sub qy py) = 0 ∧ unit (sub qx px) (vlen (sub qx px) (sub qy py)) = (segN (sub qx px, sub qy py)).1 ∧ unit (sub qy py) (vlen (sub qx px) (sub qy py)) = (segN (sub qx px, sub qy py)).2)) := by
    unfold segN
    by_cases h : vlen (sub qx px) (sub qy py) = 0
    · rw [if_pos h]; exact .inl ⟨h, rfl, rfl⟩
    · rw [if_neg h]; exact .inr ⟨h, rfl, rfl⟩
  have hO := one_nz (segN (sub qx px, sub qy py)).1 (segN (sub qx px, sub qy py)).2 (add px (mul (segN (sub qx px, sub qy py)).1 (add R (rdiv (segG (sub qx px, sub qy py) R S) 2)))) (add py (mul (segN (sub qx px, sub qy py)).2 (add R (rdiv (segG (sub qx px, sub qy py) R S) 2)))) (segG (sub qx px, sub qy py) R S)
  have hM2 : (oneM (segN (sub qx px, sub qy py)).1 (segN (sub qx px, sub qy py)).2 (add px (mul (segN (sub qx px, sub qy py)).1 (add R (rdiv (segG (sub qx px, sub qy py) R S) 2)))) (add py (mul (segN (sub qx px, sub qy py)).2 (add R (rdiv (segG (sub qx px, sub qy py) R S) 2)))) (segG (sub qx px, sub qy py) R S)).nz = M := hM
  rw [hM2] at hO
  clear hM hM2
  generalize unit (sub qx px) (vlen (sub qx px) (sub qy py)) = u1 at *
  generalize unit (sub qy py) (vlen (sub qx px) (sub qy py)) = u2 at *
  generalize vlen (sub qx px) (sub qy py) = l at *
  generalize segG (sub qx px, sub qy py) R S = G at *
  generalize (segN (sub qx px, sub qy py)).1 = nx at *
  generalize (segN (sub qx px, sub qy py)).2 = ny at *
  generalize sub qx px = dx at *
  generalize sub qy py = dy at *
  generalize sub l R = l1 at *
  generalize rdiv G 2 = h at *
  generalize add R h = ah at *
  have c5 := fun w' => rvscale_b nx ny ah w'
  have c6 := fun w' => rvadd_b px py (mul nx ah) (mul ny ah) w'
  generalize mul nx ah = m1 at *
  generalize mul ny ah = m2 at *
  generalize add px m1 = x at *
  generalize add py m2 = y at *
  have hOH : Hid (_ ∧ _) := hO
  clear hO
  obtain ⟨b, off, rfl, hc⟩ := pts_open0 ha (by omega)
  obtain ⟨b', off', rfl, hc'⟩ := pts_open0 hb (by omega)
  obtain ⟨d0, d1⟩ := hc 0 (by omega)
  obtain ⟨d2, d3⟩ := hc m (by omega)
  obtain ⟨f0, f1⟩ := hc' 0 (by omega)
  obtain ⟨f2, f3⟩ := hc' n (by omega)
  rw [hp_get (show 0 < ps.length by omega), hp_get (show m < ps.length by omega), hp_get (show 0 < qs.length by omega), hp_get (show n < qs.length by omega)] at cP
  have od := older_of_cell d0
  have of := older_of_cell f0
  rw [Nat.zero_mul, Nat.add_zero] at d0 d1 f0 f1
  have hbP : b < w.heap.size := World.block_lt_of_cell? w ⟨b, off, none⟩ d0
  have hbQ : b' < w.heap.size := World.block_lt_of_cell? w ⟨b', off', none⟩ f0
  generalize (ps[0]'(by omega)).1 = ax0 at *
  generalize (ps[0]'(by omega)).2 = ay0 at *
  generalize (ps[m]'(by omega)).1 = ax1 at *
  generalize (ps[m]'(by omega)).2 = ay1 at *
  generalize (qs[0]'(by omega)).1 = bx0 at *
  generalize (qs[0]'(by omega)).2 = by0 at *
  generalize (qs[n]'(by omega)).1 = bx1 at *
  generalize (qs[n]'(by omega)).2 = by1 at *
  have y0 : IntKind.i64.wrap ((m : Int) + 1 - 1) = (m : Int) := by rw [IntWalk.i64_left, IntWalk.wrap64_in _ (by omega)]; omega
  have y1 : IntKind.i64.wrap ((n : Int) + 1 - 1) = (n : Int) := by rw [IntWalk.i64_left, IntWalk.wrap64_in _ (by omega)]; omega
  have y2 : IntKind.i64.wrap (m : Int) = (m : Int) := by rw [IntWalk.i64_left, IntWalk.wrap64_in _ (by omega)]
  have y3 : IntKind.i64.wrap (n : Int) = (n : Int) := by rw [IntWalk.i64_left, IntWalk.wrap64_in _ (by omega)]
  have x0 : (0 : Int) ≤ (m : Int) := by omega
  have x1 : (m : Int) < (m : Int) + 1 := by omega
  have x2 : (0 : Int) ≤ (n : Int) := by omega
  have x3 : (n : Int) < (n : Int) + 1 := by omega
  have x4 : (0 : Int) < (m : Int) + 1 := by omega
  have x5 : (0 : Int) < (n : Int) + 1 := by omega
  clear hc hc' hm hn ha hb
  go_enter Tryz.func28, Tryz.ntmps28
  go_upto_region 1 with fail
  refine wp_named ?_
  intro W hW
  have kR : blk W w.heap.size #[.int .i64 0, .int .i64 0, .slice none 0 0] 34 := by rw [hW]; exact bBkn
  have hbW : Below w.heap.size w W := by rw [hW]; exact bBel
  have hszW : w.heap.size + 1 ≤ W.heap.size := by rw [hW]; simp
  clear hW
  replace d0 := (hbW.cell (p := ⟨b, off, none⟩) hbP).trans d0
  replace d1 := (hbW.cell (p := ⟨b, off + 1, none⟩) hbP).trans d1
  replace d2 := (hbW.cell (p := ⟨b, off + m * 2, none⟩) hbP).trans d2
  replace d3 := (hbW.cell (p := ⟨b, off + m * 2 + 1, none⟩) hbP).trans d3
  replace f0 := (hbW.cell (p := ⟨b', off', none⟩) hbQ).trans f0
  replace f1 := (hbW.cell (p := ⟨b', off' + 1, none⟩) hbQ).trans f1
  replace f2 := (hbW.cell (p := ⟨b', off' + n * 2, none⟩) hbQ).trans f2
  replace f3 := (hbW.cell (p := ⟨b', off' + n * 2 + 1, none⟩) hbQ).trans f3
  replace od := older_of_cell d0
  replace of := older_of_cell f0
  have hcellB : ∀ w', Below W.heap.size W w' → Below W.heap.size W w' ∧ w'.cell? ⟨b, off, none⟩ = some (.int .i64 ax0) ∧ w'.cell? ⟨b, off + 1, none⟩ = some (.int .i64 ay0) ∧ w'.cell? ⟨b, off + m * 2, none⟩ = some (.int .i64 ax1) ∧ w'.cell? ⟨b, off + m * 2 + 1, none⟩ = some (.int .i64 ay1) ∧ w'.cell? ⟨b', off', none⟩ = some (.int .i64 bx0) ∧ w'.cell? ⟨b', off' + 1, none⟩ = some (.int .i64 by0) ∧ w'.cell? ⟨b', off' + n * 2, none⟩ = some (.int .i64 bx1) ∧ w'.cell? ⟨b', off' + n * 2 + 1, none⟩ = some (.int .i64 by1) := fun w' h => ⟨h, (h.cell (p := ⟨b, off, none⟩) (by show b < _; omega)).trans d0, (h.cell (p := ⟨b, off + 1, none⟩) (by show b < _; omega)).trans d1, (h.cell (p := ⟨b, off + m * 2, none⟩) (by show b < _; omega)).trans d2, (h.cell (p := ⟨b, off + m * 2 + 1, none⟩) (by show b < _; omega)).trans d3, (h.cell (p := ⟨b', off', none⟩) (by show b' < _; omega)).trans f0, (h.cell (p := ⟨b', off' + 1, none⟩) (by show b' < _; omega)).trans f1, (h.cell (p := ⟨b', off' + n * 2, none⟩) (by show b' < _; omega)).trans f2, (h.cell (p := ⟨b', off' + n * 2 + 1, none⟩) (by show b' < _; omega)).trans f3⟩
  clear d0 d1 d2 d3 f0 f1 f2 f3 od of
  obtain ⟨-, d0, d1, d2, d3, f0, f1, f2, f3⟩ := hcellB _ (Below.refl _ W)
  go_cut [10, 11] (fun fr tp wx => ∃ E F : Nat, fr = .pointer (some ⟨E, 0, none⟩) ∧ tp = .pointer (some ⟨F, 0, none⟩) ∧ W.heap.size ≤ E ∧ W.heap.size ≤ F ∧ blk wx E #[.int .i64 px, .int .i64 py] 27 ∧ blk wx F #[.int .i64 qx, .int .i64 qy] 27 ∧ Below W.heap.size W wx)
  case first =>
    go_region_held3 (fun w' => Below W.heap.size W w' ∧ w'.cell? ⟨b, off, none⟩ = some (.int .i64 ax0) ∧ w'.cell? ⟨b, off + 1, none⟩ = some (.int .i64 ay0) ∧ w'.cell? ⟨b, off + m * 2, none⟩ = some (.int .i64 ax1) ∧ w'.cell? ⟨b, off + m * 2 + 1, none⟩ = some (.int .i64 ay1) ∧ w'.cell? ⟨b', off', none⟩ = some (.int .i64 bx0) ∧ w'.cell? ⟨b', off' + 1, none⟩ = some (.int .i64 by0) ∧ w'.cell? ⟨b', off' + n * 2, none⟩ = some (.int .i64 bx1) ∧ w'.cell? ⟨b', off' + n * 2 + 1, none⟩ = some (.int .i64 by1)) (first | (refine hcellB _ ?_; exact bBel)) ((go_at_call 54; with_reducible_and_instances refine Calls.mono (gw_at (cP _)) ?_; rintro e w1 ⟨rfl, q, rfl⟩))
    all_goals
      go_wp2_with fail
    all_goals
      go_meet
      exact ⟨_, _, rfl, rfl, by (try simp); (try omega), by (try simp); (try omega), bBkn, bBkn, bBel⟩
  case rest =>
  obtain ⟨E, F, rfl, rfl, nE, nF, kE, kF, hbX⟩ := hcut
  generalize wc = X at *
  have kR1 := blk_below hbX kR
  have hbX2 : Below w.heap.size w X := Below.trans hbW (hbX.mono hbW.size)
  have hRX := blk_lt kR1
  have hEX := blk_lt kE
  clear d0 d1 d2 d3 f0 f1 f2 f3 hcellB kR hbX hbW cP x0 x1 x2 x3 x4 x5 y0 y1 y2 y3
  have okE := blk_older kE
  have ckE_0 : _ = some _ := blk_cell kE 0
  have ckE_1 : _ = some _ := blk_cell kE 1
  have fkE_0 := blk_free kE 0
  have fkE_1 := blk_free kE 1
  have okF := blk_older kF
  have ckF_0 : _ = some _ := blk_cell kF 0
  have ckF_1 : _ = some _ := blk_cell kF 1
  have fkF_0 := blk_free kF 0
  have fkF_1 := blk_free kF 1
  go_upto_region 3 with (first | (go_at_call 23; refine Calls.mono (gw_at (cS _)) ?_; rintro e w1 ⟨rfl, q, rfl⟩))
  refine wp_named ?_
  intro V hV
  have kD : blk V (X.heap.size + q.os.size) #[.int .i64 dx, .int .i64 dy] 27 := by rw [hV]; exact bBkn
  have kE2 : blk V E #[.int .i64 px, .int .i64 py] 27 := by rw [hV]; exact (by apply blk_of; (repeat (first | with_reducible exact kE | with_reducible apply blk_drew | with_reducible apply blk_gw | with_reducible apply blk_alloc | with_reducible apply blk_set | ((with_reducible apply blk_other); focus omega))); (first | rfl | simp))
  have kR2 : blk V w.heap.size #[.int .i64 0, .int .i64 0, .slice none 0 0] 34 := by rw [hV]; exact (by apply blk_of; (repeat (first | with_reducible exact kR1 | with_reducible apply blk_drew | with_reducible apply blk_gw | with_reducible apply blk_alloc | with_reducible apply blk_set | ((with_reducible apply blk_other); focus omega))); (first | rfl | simp))
  have hbV : Below w.heap.size w V := by have hszX := hbX2.size; rw [hV]; exact bBel
  clear hV okE ckE_0 ckE_1 fkE_0 fkE_1 okF ckF_0 ckF_1 fkF_0 fkF_1 kE kF kR1 hbX2 cS
  generalize X.heap.size + q.os.size = D at *
  have hszV := hbV.size
  have okD := blk_older kD
  have ckD_0 : _ = some _ := blk_cell kD 0
  have ckD_1 : _ = some _ := blk_cell kD 1
  have fkD_0 := blk_free kD 0
  have fkD_1 := blk_free kD 1
  go_upto_region 5 with (first | (go_at_call 22; refine Calls.mono (gw_at (cL _)) ?_; rintro e w1 ⟨rfl, q1, rfl⟩) | (go_at_call 55; refine Calls.mono (gw_at (cN _)) ?_; rintro e w1 ⟨rfl, q2, rfl⟩))
  refine wp_named ?_
  intro U hU
  have kN : blk U (V.heap.size + q1.os.size + q2.os.size) #[.int .i64 u1, .int .i64 u2] 27 := by rw [hU]; exact bBkn
  have kE3 : blk U E #[.int .i64 px, .int .i64 py] 27 := by rw [hU]; exact (by apply blk_of; (repeat (first | with_reducible exact kE2 | with_reducible apply blk_drew | with_reducible apply blk_gw | with_reducible apply blk_alloc | with_reducible apply blk_set | ((with_reducible apply blk_other); focus omega))); (first | rfl | simp))
  have kR3 : blk U w.heap.size #[.int .i64 0, .int .i64 0, .slice none 0 0] 34 := by rw [hU]; exact (by apply blk_of; (repeat (first | with_reducible exact kR2 | with_reducible apply blk_drew | with_reducible apply blk_gw | with_reducible apply blk_alloc | with_reducible apply blk_set | ((with_reducible apply blk_other); focus omega))); (first | rfl | simp))
  have hbU : Below w.heap.size w U := by rw [hU]; exact bBel
  have gE := blk_lt kE2
  have gR := blk_lt kR2
  have hEN : E < V.heap.size + q1.os.size + q2.os.size := by omega
  have hRN : w.heap.size < V.heap.size + q1.os.size + q2.os.size := by omega
  clear hU okD ckD_0 ckD_1 fkD_0 fkD_1 kD kE2 kR2 hbV hszV cL cN gE gR
  generalize V.heap.size + q1.os.size + q2.os.size = NB at *
  have hszU := hbU.size
  go_upto_if 47 with fail
  go_cut [] (fun wx => blk wx NB #[.int .i64 nx, .int .i64 ny] 27 ∧ blk wx E #[.int .i64 px, .int .i64 py] 27 ∧ blk wx w.heap.size #[.int .i64 0, .int .i64 0, .slice none 0 0] 34 ∧ Below w.heap.size w wx)
  case first =>
    have okN := blk_older kN
    have ckN_0 : _ = some _ := blk_cell kN 0
    have ckN_1 : _ = some _ := blk_cell kN 1
    have fkN_0 := blk_free kN 0
    have fkN_1 := blk_free kN 1
    rcases hN.out with ⟨rfl, rfl, rfl⟩ | ⟨z, rfl, rfl⟩
    · go_wp2_with fail
      go_meet
      exact ⟨(by apply blk_of; (repeat (first | with_reducible exact kN | with_reducible apply blk_drew | with_reducible apply blk_gw | with_reducible apply blk_alloc | with_reducible apply blk_set | ((with_reducible apply blk_other); focus omega))); (first | rfl | simp)), (by apply blk_of; (repeat (first | with_reducible exact kE3 | with_reducible apply blk_drew | with_reducible apply blk_gw | with_reducible apply blk_alloc | with_reducible apply blk_set | ((with_reducible apply blk_other); focus omega))); (first | rfl | simp)), (by apply blk_of; (repeat (first | with_reducible exact kR3 | with_reducible apply blk_drew | with_reducible apply blk_gw | with_reducible apply blk_alloc | with_reducible apply blk_set | ((with_reducible apply blk_other); focus omega))); (first | rfl | simp)), bBel⟩
    · have z1 : (l == 0) = false := by rw [beq_eq_false_iff_ne]; exact z
      clear z
      go_wp2_with fail
      go_meet
      exact ⟨(by apply blk_of; (repeat (first | with_reducible exact kN | with_reducible apply blk_drew | with_reducible apply blk_gw | with_reducible apply blk_alloc | with_reducible apply blk_set | ((with_reducible apply blk_other); focus omega))); (first | rfl | simp)), (by apply blk_of; (repeat (first | with_reducible exact kE3 | with_reducible apply blk_drew | with_reducible apply blk_gw | with_reducible apply blk_alloc | with_reducible apply blk_set | ((with_reducible apply blk_other); focus omega))); (first | rfl | simp)), (by apply blk_of; (repeat (first | with_reducible exact kR3 | with_reducible apply blk_drew | with_reducible apply blk_gw | with_reducible apply blk_alloc | with_reducible apply blk_set | ((with_reducible apply blk_other); focus omega))); (first | rfl | simp)), bBel⟩
  case rest =>
  obtain ⟨kN4, kE4, kR4, hbY⟩ := hcut
  generalize wc = Y at *
  clear kN kE3 kR3 hbU hszU hN
  have hszY := hbY.size
  go_upto_region 8 with (first | (go_at_call 48; with_reducible_and_instances refine Calls.mono (gw_at (c1 _)) ?_; rintro e w1 ⟨rfl, q3, rfl⟩) | (go_at_call 48; with_reducible_and_instances refine Calls.mono (gw_at (c2 _)) ?_; rintro e w1 ⟨rfl, q4, rfl⟩))
  refine wp_named ?_
  intro T hT
  have kN5 : blk T NB #[.int .i64 nx, .int .i64 ny] 27 := by rw [hT]; exact (by apply blk_of; (repeat (first | with_reducible exact kN4 | with_reducible apply blk_drew | with_reducible apply blk_gw | with_reducible apply blk_alloc | with_reducible apply blk_set | ((with_reducible apply blk_other); focus omega))); (first | rfl | simp))
  have kE5 : blk T E #[.int .i64 px, .int .i64 py] 27 := by rw [hT]; exact (by apply blk_of; (repeat (first | with_reducible exact kE4 | with_reducible apply blk_drew | with_reducible apply blk_gw | with_reducible apply blk_alloc | with_reducible apply blk_set | ((with_reducible apply blk_other); focus omega))); (first | rfl | simp))
  have kR5 : blk T w.heap.size #[.int .i64 0, .int .i64 0, .slice none 0 0] 34 := by rw [hT]; exact (by apply blk_of; (repeat (first | with_reducible exact kR4 | with_reducible apply blk_drew | with_reducible apply blk_gw | with_reducible apply blk_alloc | with_reducible apply blk_set | ((with_reducible apply blk_other); focus omega))); (first | rfl | simp))
  have hbT : Below w.heap.size w T := by rw [hT]; exact bBel
  clear hT kN4 kE4 kR4 hbY hszY c1 c2
  have hszT := hbT.size
  obtain ⟨o1, o2⟩ := hOH.out
  clear hOH
  by_cases hG : 1024 < G
  · obtain rfl : M = mz := o1 (by omega)
    have hd : decide (1024 < G) = true := decide_eq_true hG
    clear o1 o2
    have okR5 := blk_older kR5
    have ckR5_0 : _ = some _ := blk_cell kR5 0
    have ckR5_1 : _ = some _ := blk_cell kR5 1
    have ckR5_2 : _ = some _ := blk_cell kR5 2
    have fkR5_0 := blk_free kR5 0
    have fkR5_1 := blk_free kR5 1
    have fkR5_2 := blk_free kR5 2
    go_wp2_with fail
    refine post_named ?_
    intro Z hZ
    have kZ : blk Z w.heap.size #[.int .i64 0, .int .i64 0, .slice none 0 0] 34 := by rw [hZ]; exact (by apply blk_of; (repeat (first | with_reducible exact kR5 | with_reducible apply blk_drew | with_reducible apply blk_gw | with_reducible apply blk_alloc | with_reducible apply blk_set | ((with_reducible apply blk_other); focus omega))); (first | rfl | simp))
    have hbZ : Below w.heap.size w Z := by rw [hZ]; exact bBel
    clear hZ
    have okZ := blk_older kZ
    have ckZ_0 : _ = some _ := blk_cell kZ 0
    have ckZ_1 : _ = some _ := blk_cell kZ 1
    have ckZ_2 : _ = some _ := blk_cell kZ 2
    have fkZ_0 := blk_free kZ 0
    have fkZ_1 := blk_free kZ 1
    have fkZ_2 := blk_free kZ 2
    exact bodyPost_ret (v := .tuple #[.agg #[.int .i64 0, .int .i64 0, .slice none 0 0], .bool false]) (by simp [results, Tryz.results28, go_sem, ckZ_0, ckZ_1, ckZ_2]) rfl (mnt_mk (l := []) (by decide) (Nat.le_refl _) (by decide) (fun _ => rfl) (.inl rfl) hbZ)
  · obtain rfl : M = ⟨nx, ny, [⟨x, y, G, 0, 0, 0⟩]⟩ := o2 (by omega)
    have hd : decide (1024 < G) = false := decide_eq_false hG
    clear o1 o2
    have okN5 := blk_older kN5
    have ckN5_0 : _ = some _ := blk_cell kN5 0
    have ckN5_1 : _ = some _ := blk_cell kN5 1
    have fkN5_0 := blk_free kN5 0
    have fkN5_1 := blk_free kN5 1
    have okE5 := blk_older kE5
    have ckE5_0 : _ = some _ := blk_cell kE5 0
    have ckE5_1 : _ = some _ := blk_cell kE5 1
    have fkE5_0 := blk_free kE5 0
    have fkE5_1 := blk_free kE5 1
    go_upto_region 10 with fail
    first
      | (refine wp_mix 24 [0, 1, 3, 0, 0, 16, 48, 120, 248, 0, 512, 1536, 0, 0, 8192, 24576, 61440, 126976, 262143, 524287, 1048575, 1048575, 0, 0, 14680063, 33554431] [] [0, 1, 2, 3, 4, 5, 6, 7, 8, 9, 10, 11, 12, 13, 14, 15, 16, 17, 18, 19, 20, 21, 22, 23] (by kernel_rfl) (by decide +kernel) ?_)
      | (refine wp_mix 9 [0, 0, 0, 0, 8, 28, 62, 127, 0, 511] [] [0, 1, 2, 3, 4, 5, 6, 7, 8] (by kernel_rfl) (by decide +kernel) ?_)
    first
      | (repeat (first | (refine mix_skip (by rfl) (by rfl) (by rfl) (by rfl) ?_) | (refine mix_early (by rfl) (by rfl) (by rfl) ?_; go_big_quiet_step (fail); with_reducible refine wpQuiet_nil ?_) | (refine mix_late (by rfl) (by rfl) (by rfl) ?_; go_big_quiet_step (fail); with_reducible refine wpQuiet_nil ?_) | (refine mix_call (by rfl) (by rfl) (by rfl) ?_; intro pM Qs hQs; go_wp2_with (first | (go_at_call 52; refine Calls.mono (gw_at (c3 _)) ?_; rintro e w1 ⟨rfl, q5, rfl⟩) | (go_at_call 58; refine Calls.mono (gw_at (c4 _)) ?_; rintro e w1 ⟨rfl, q6, rfl⟩) | (go_at_call 57; refine Calls.mono (gw_at (c5 _)) ?_; rintro e w1 ⟨rfl, q7, rfl⟩) | (go_at_call 56; refine Calls.mono (gw_at (c6 _)) ?_; rintro e w1 ⟨rfl, q8, rfl⟩)); refine hQs _ _ bBel ?_)))
      | (repeat (first | (refine mix_skip (by rfl) (by rfl) (by rfl) (by rfl) ?_) | (refine mix_early (by rfl) (by rfl) (by rfl) ?_; go_big_quiet_step (fail); with_reducible refine wpQuiet_nil ?_) | (refine mix_late (by rfl) (by rfl) (by rfl) ?_; go_big_quiet_step (fail); with_reducible refine wpQuiet_nil ?_) | (refine mix_call (by rfl) (by rfl) (by rfl) ?_; intro pM Qs hQs; go_wp2_with (first | (go_at_call 52; refine Calls.mono (gw_at (c3 _)) ?_; rintro e w1 ⟨rfl, q5, rfl⟩) | (go_at_call 58; refine Calls.mono (gw_at (c4 _)) ?_; rintro e w1 ⟨rfl, q6, rfl⟩) | (go_at_call 57; refine Calls.mono (gw_at (c5 _)) ?_; rintro e w1 ⟨rfl, q7, rfl⟩) | (go_at_call 56; refine Calls.mono (gw_at (c6 _)) ?_; rintro e w1 ⟨rfl, q8, rfl⟩)); refine hQs _ _ bBel ?_)))
    refine mix_make #[.int .i64 0, .int .i64 0] 27 none (by rfl) (by rfl) (by rfl) (by rfl) (fun w => by simp [go_sem, mval]) ?_
    intro b7 wb hbb kb hS
    obtain ⟨qb, rfl⟩ := gw_of_below hbb
    have n7 : T.heap.size ≤ b7 := Nat.le_of_not_lt fun h => hS (by simp [h])
    clear hbb hS
    simp only [mval]
    first
      | (refine mix_end ?_
         intro pE
         simp only [List.drop_succ_cons, List.drop_zero])
      | (refine mix_end ?_
         intro pE
         simp only [List.drop_succ_cons, List.drop_zero])
    refine list_nm ?_
    intro Y2 hY2
    have k7 : blk Y2 b7 #[.int .i64 0, .int .i64 0] 27 := by rw [hY2]; exact (by apply blk_of; (repeat (first | with_reducible exact kb | with_reducible apply blk_drew | with_reducible apply blk_gw | with_reducible apply blk_alloc | with_reducible apply blk_set | ((with_reducible apply blk_other); focus omega))); (first | rfl | simp))
    have kN7 : blk Y2 NB #[.int .i64 nx, .int .i64 ny] 27 := by rw [hY2]; exact (by apply blk_of; (repeat (first | with_reducible exact kN5 | with_reducible apply blk_drew | with_reducible apply blk_gw | with_reducible apply blk_alloc | with_reducible apply blk_set | ((with_reducible apply blk_other); focus omega))); (first | rfl | simp))
    have kR7 : blk Y2 w.heap.size #[.int .i64 0, .int .i64 0, .slice none 0 0] 34 := by rw [hY2]; exact (by apply blk_of; (repeat (first | with_reducible exact kR5 | with_reducible apply blk_drew | with_reducible apply blk_gw | with_reducible apply blk_alloc | with_reducible apply blk_set | ((with_reducible apply blk_other); focus omega))); (first | rfl | simp))
    have hbY2 : Below w.heap.size w Y2 := by rw [hY2]; exact bBel
    have hN7 : NB < b7 := Nat.lt_of_lt_of_le (blk_lt kN5) n7
    have hR7 : w.heap.size < b7 := Nat.lt_of_lt_of_le (blk_lt kR5) n7
    clear hY2 okN5 ckN5_0 ckN5_1 fkN5_0 fkN5_1 okE5 ckE5_0 ckE5_1 fkE5_0 fkE5_1 kN5 kE5 kR5 hbT hszT c3 c4 c5 c6 kb n7
    have ok7 := blk_older k7
    have ck7_0 : _ = some _ := blk_cell k7 0
    have ck7_1 : _ = some _ := blk_cell k7 1
    have fk7_0 := blk_free k7 0
    have fk7_1 := blk_free k7 1
    go_upto_region 11 with fail
    refine wp_named ?_
    intro Q hQ
    have kP : blk Q b7 #[.int .i64 x, .int .i64 y] 27 := by rw [hQ]; exact (by apply blk_of; (repeat (first | with_reducible exact k7 | with_reducible apply blk_drew | with_reducible apply blk_gw | with_reducible apply blk_alloc | with_reducible apply blk_set | ((with_reducible apply blk_other); focus omega))); (first | rfl | simp))
    have kN6 : blk Q NB #[.int .i64 nx, .int .i64 ny] 27 := by rw [hQ]; exact (by apply blk_of; (repeat (first | with_reducible exact kN7 | with_reducible apply blk_drew | with_reducible apply blk_gw | with_reducible apply blk_alloc | with_reducible apply blk_set | ((with_reducible apply blk_other); focus omega))); (first | rfl | simp))
    have kR6 : blk Q w.heap.size #[.int .i64 0, .int .i64 0, .slice none 0 0] 34 := by rw [hQ]; exact (by apply blk_of; (repeat (first | with_reducible exact kR7 | with_reducible apply blk_drew | with_reducible apply blk_gw | with_reducible apply blk_alloc | with_reducible apply blk_set | ((with_reducible apply blk_other); focus omega))); (first | rfl | simp))
    have hbQ : Below w.heap.size w Q := by
      have g7 : w.heap.size ≤ b7 := by omega
      rw [hQ]
      repeat (first | with_reducible exact hbY2 | with_reducible refine Below.setCell ?_ (by exact g7) _)
    have hszQ := hbQ.size
    have hRQ := blk_lt kR6
    clear hQ ok7 ck7_0 ck7_1 fk7_0 fk7_1 k7 kN7 kR7 hbY2
    have okP := blk_older kP
    have ckP_0 : _ = some _ := blk_cell kP 0
    have ckP_1 : _ = some _ := blk_cell kP 1
    have fkP_0 := blk_free kP 0
    have fkP_1 := blk_free kP 1
    have okN6 := blk_older kN6
    have ckN6_0 : _ = some _ := blk_cell kN6 0
    have ckN6_1 : _ = some _ := blk_cell kN6 1
    have fkN6_0 := blk_free kN6 0
    have fkN6_1 := blk_free kN6 1
    have okR6 := blk_older kR6
    have ckR6_0 : _ = some _ := blk_cell kR6 0
    have ckR6_1 : _ = some _ := blk_cell kR6 1
    have ckR6_2 : _ = some _ := blk_cell kR6 2
    have fkR6_0 := blk_free kR6 0
    have fkR6_1 := blk_free kR6 1
    have fkR6_2 := blk_free kR6 2
    go_wp2_with fail
    refine post_named ?_
    intro Z hZ
    have kS : blk Z Q.heap.size #[.int .i64 x, .int .i64 y, .int .i64 G, .int .i64 0, .int .i64 0, .int .i64 0] 39 := by rw [hZ]; exact bBkn
    have kZ : blk Z w.heap.size #[.int .i64 nx, .int .i64 ny, .slice (some ⟨Q.heap.size, 0, none⟩) 1 1] 34 := by rw [hZ]; exact (by apply blk_of; (repeat (first | with_reducible exact kR6 | with_reducible apply blk_drew | with_reducible apply blk_gw | with_reducible apply blk_alloc | with_reducible apply blk_set | ((with_reducible apply blk_other); focus omega))); (first | rfl | simp))
    have hbZ : Below w.heap.size w Z := by rw [hZ]; exact bBel
    clear hZ
    have okZ := blk_older kZ
    have ckZ_0 : _ = some _ := blk_cell kZ 0
    have ckZ_1 : _ = some _ := blk_cell kZ 1
    have ckZ_2 : _ = some _ := blk_cell kZ 2
    have fkZ_0 := blk_free kZ 0
    have fkZ_1 := blk_free kZ 1
    have fkZ_2 := blk_free kZ 2
    exact bodyPost_ret (v := .tuple #[.agg #[.int .i64 nx, .int .i64 ny, .slice (some ⟨Q.heap.size, 0, none⟩) 1 1], .bool true]) (by simp [results, Tryz.results28, go_sem, ckZ_0, ckZ_1, ckZ_2]) rfl (mnt_mk (l := [⟨x, y, G, 0, 0, 0⟩]) (by exact decide_eq_true (by simp)) (Nat.le_refl _) (by decide) (fun h => by cases h) (cnts_one (c := ⟨x, y, G, 0, 0, 0⟩) kS) hbZ)

end Go.Proofs.YtiecpebckmihgaaGreat
