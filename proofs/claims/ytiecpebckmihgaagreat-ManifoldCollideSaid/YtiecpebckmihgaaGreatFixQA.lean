/- Contracts of the reference of chapter 14. -/
import Derived.Test.YtiecpebckmihgaaGreatCo7
import Derived.Test.YtiecpebckmihgaaGreatCo2
import Derived.Test.YtiecpebckmihgaaGreatSx
set_option linter.unusedVariables false
namespace Go.Proofs.YtiecpebckmihgaaGreat
open Go.RowKit Fx

theorem redge0_b (A : Option Addr) (cap : Nat) (ps : List (Int × Int)) (i : Int) (h : ¬ eOK ps i) (w : World) : Calls Tryz.prog 102 #[.slice A ps.length cap, .int .i64 i] w fun e w' => e = .returned (.tuple #[.agg #[.int .i64 0, .int .i64 0], .bool false]) ∧ Below w.heap.size w w' := by
  have hc : (ps.length : Int) < 2 ∨ (¬ (ps.length : Int) < 2 ∧ i < 0) ∨ (¬ (ps.length : Int) < 2 ∧ ¬ i < 0 ∧ (ps.length : Int) ≤ i) := by unfold eOK at h; omega
  clear h
  rcases hc with c | ⟨c, d⟩ | ⟨c, d, f⟩
  all_goals
    go_enter Tryz.func102, Tryz.ntmps102
    go_wp2_with fail
    exact bodyPost_ret (v := .tuple #[.agg #[.int .i64 0, .int .i64 0], .bool false]) (by simp [results, Tryz.results102, go_sem]) rfl ⟨rfl, bBel⟩

set_option maxHeartbeats 1000000 in
theorem redge1_b (A : Option Addr) (cap : Nat) (ps : List (Int × Int)) (k : Nat) (h : eOK ps k) (hl : ps.length ≤ 4611686018427387904) (w : World) (ha : Pts w A ps) : Calls Tryz.prog 102 #[.slice A ps.length cap, .int .i64 (k : Int)] w fun e w' => e = .returned (.tuple #[.agg #[.int .i64 (eX ps k), .int .i64 (eY ps k)], .bool true]) ∧ Below w.heap.size w w' := by
  obtain ⟨h2, h0, h1⟩ := h
  have hlt : k < ps.length := by omega
  have n2 : ¬ (ps.length : Int) < 2 := by omega
  have i0 : ¬ (k : Int) < 0 := by omega
  have i1 : ¬ (ps.length : Int) ≤ (k : Int) := by omega
  have i2 : (k : Int) < (ps.length : Int) := by omega
  have hmod := Nat.mod_lt (k + 1) (show 0 < ps.length by omega)
  have hm : ((k : Int) + 1).tmod (ps.length : Int) = (((k + 1) % ps.length : Nat) : Int) := by
    rw [show (k : Int) + 1 = ((k + 1 : Nat) : Int) from by omega]; first | exact (Int.ofNat_tmod _ _).symm | exact (Int.natCast_tmod _ _).symm | (rw [Int.tmod_eq_emod_of_nonneg (by omega)]; exact (Int.natCast_emod _ _).symm)
  have hnz : ((ps.length : Int) == 0) = false := by rw [beq_eq_false_iff_ne]; omega
  obtain ⟨b, off, rfl, hc⟩ := pts_open0 ha (by omega)
  unfold eX eY
  rw [← hp_mod ps (k + 1)]
  generalize (k + 1) % ps.length = nx at *
  rw [hp_get hlt, hp_get hmod]
  have x0 : (0 : Int) ≤ (nx : Int) := by omega
  have x1 : (nx : Int) < (ps.length : Int) := by omega
  have k0 : (0 : Int) ≤ (k : Int) := by omega
  obtain ⟨d0, d1⟩ := hc k hlt
  obtain ⟨f0, f1⟩ := hc nx hmod
  have ob := older_of_cell d0
  have kmax : (k : Int) + 1 ≤ (ps.length : Int) := by omega
  clear hc ha h0 h1 h2
  generalize ps[k].1 = xk at *
  generalize ps[k].2 = yk at *
  generalize ps[nx].1 = xn at *
  generalize ps[nx].2 = yn at *
  go_enter Tryz.func102, Tryz.ntmps102
  go_wp2_with (first | (go_at_call 23; refine Calls.mono (gw_at (rvsub_b _ _ _ _ _)) ?_; rintro e w1 ⟨rfl, q, rfl⟩))
  repeat
    refine wp_region_gw_tail 13 (by kernel_rfl) (by kernel_rfl) ?_
    simp only [List.take_succ_cons, List.take_zero, List.drop_succ_cons, List.drop_zero]
    repeat (go_big_quiet_step ((first | (go_at_call 23; exact gw_call (rvsub_b _ _ _ _ _)))))
    refine wpQuiet_nil ?_
    intro w1 hw1
    obtain ⟨q, rfl⟩ := hw1
    go_wp2_with (first | (go_at_call 23; refine Calls.mono (gw_at (rvsub_b _ _ _ _ _)) ?_; rintro e w1 ⟨rfl, q, rfl⟩))
  exact bodyPost_ret (v := .tuple #[.agg #[.int .i64 (sub xn xk), .int .i64 (sub yn yk)], .bool true]) (by simp [results, Tryz.results102, go_sem]) rfl ⟨rfl, bBel⟩

theorem rdir_b (A : Option Addr) (cap : Nat) (ps : List (Int × Int)) (i : Int) (hl : ps.length ≤ 4611686018427387904) (w : World) (ha : Pts w A ps) : Calls Tryz.prog 136 #[.slice A ps.length cap, .int .i64 i] w fun e w' => e = .returned (.agg #[.int .i64 (eDir ps i).1, .int .i64 (eDir ps i).2]) ∧ Below w.heap.size w w' := by
  unfold eDir
  by_cases h : eOK ps i
  · rw [if_pos h]
    obtain ⟨k, rfl⟩ : ∃ k : Nat, i = (k : Int) := ⟨i.toNat, by unfold eOK at h; omega⟩
    have cE := fun w' h' => redge1_b A cap ps k h hl w' h'
    rw [show ((k : Nat) : Int).toNat = k from rfl]
    have cN := fun w' => rvnorm_b (eX ps k) (eY ps k) w'
    generalize eX ps k = x at *
    generalize eY ps k = y at *
    generalize unit x (vlen x y) = u at *
    generalize unit y (vlen x y) = v at *
    clear h
    go_enter Tryz.func136, Tryz.ntmps136
    go_wp2_with (first | (go_at_call 102; refine Calls.mono (gw_at (cE _ (Pts.to ha bBel))) ?_; rintro e w1 ⟨rfl, q, rfl⟩) | (go_at_call 55; refine Calls.mono (gw_at (cN _)) ?_; rintro e w1 ⟨rfl, q, rfl⟩))
    exact bodyPost_ret (v := .agg #[.int .i64 u, .int .i64 v]) (by simp [results, Tryz.results136, go_sem]; try (first | with_reducible rfl | exact ⟨rfl, rfl⟩ | exact ⟨rfl, rfl, rfl⟩ | exact ⟨rfl, rfl, rfl, rfl⟩ | exact ⟨rfl, rfl, rfl, rfl, rfl⟩ | exact ⟨rfl, rfl, rfl, rfl, rfl, rfl⟩ | rfl)) rfl ⟨rfl, bBel⟩
  · rw [if_neg h]
    have cE := fun w' => redge0_b A cap ps i h w'
    clear h
    dsimp only
    go_enter Tryz.func136, Tryz.ntmps136
    go_wp2_with (go_at_call 102; refine Calls.mono (gw_at (cE _)) ?_; rintro e w1 ⟨rfl, q, rfl⟩)
    exact bodyPost_ret (v := .agg #[.int .i64 0, .int .i64 0]) (by simp [results, Tryz.results136, go_sem]; try (first | with_reducible rfl | exact ⟨rfl, rfl⟩ | exact ⟨rfl, rfl, rfl⟩ | exact ⟨rfl, rfl, rfl, rfl⟩ | exact ⟨rfl, rfl, rfl, rfl, rfl⟩ | exact ⟨rfl, rfl, rfl, rfl, rfl, rfl⟩ | rfl)) rfl ⟨rfl, bBel⟩

theorem rnor_b (A : Option Addr) (cap : Nat) (ps : List (Int × Int)) (i : Int) (hl : ps.length ≤ 4611686018427387904) (w : World) (ha : Pts w A ps) : Calls Tryz.prog 60 #[.slice A ps.length cap, .int .i64 i] w fun e w' => e = .returned (.agg #[.int .i64 (eNor ps i).1, .int .i64 (eNor ps i).2]) ∧ Below w.heap.size w w' := by
  unfold eNor
  by_cases h : eOK ps i
  · rw [if_pos h]
    obtain ⟨k, rfl⟩ : ∃ k : Nat, i = (k : Int) := ⟨i.toNat, by unfold eOK at h; omega⟩
    have cE := fun w' h' => redge1_b A cap ps k h hl w' h'
    rw [show ((k : Nat) : Int).toNat = k from rfl]
    have cN := fun w' => rvnorm_b (eY ps k) (-eX ps k) w'
    have b1 : -536870911 ≤ eX ps k := sat_ge _
    have b2 : eX ps k ≤ 536870911 := sat_le _
    generalize eX ps k = x at *
    generalize eY ps k = y at *
    generalize unit y (vlen y (-x)) = u at *
    generalize unit (-x) (vlen y (-x)) = v at *
    clear h
    go_enter Tryz.func60, Tryz.ntmps60
    go_wp2_with (first | (go_at_call 102; refine Calls.mono (gw_at (cE _ (Pts.to ha bBel))) ?_; rintro e w1 ⟨rfl, q, rfl⟩) | (go_at_call 55; refine Calls.mono (gw_at (cN _)) ?_; rintro e w1 ⟨rfl, q, rfl⟩))
    exact bodyPost_ret (v := .agg #[.int .i64 u, .int .i64 v]) (by simp [results, Tryz.results60, go_sem]; try (first | with_reducible rfl | exact ⟨rfl, rfl⟩ | exact ⟨rfl, rfl, rfl⟩ | exact ⟨rfl, rfl, rfl, rfl⟩ | exact ⟨rfl, rfl, rfl, rfl, rfl⟩ | exact ⟨rfl, rfl, rfl, rfl, rfl, rfl⟩ | rfl)) rfl ⟨rfl, bBel⟩
  · rw [if_neg h]
    have cE := fun w' => redge0_b A cap ps i h w'
    clear h
    dsimp only
    go_enter Tryz.func60, Tryz.ntmps60
    go_wp2_with (go_at_call 102; refine Calls.mono (gw_at (cE _)) ?_; rintro e w1 ⟨rfl, q, rfl⟩)
    exact bodyPost_ret (v := .agg #[.int .i64 0, .int .i64 0]) (by simp [results, Tryz.results60, go_sem]; try (first | with_reducible rfl | exact ⟨rfl, rfl⟩ | exact ⟨rfl, rfl, rfl⟩ | exact ⟨rfl, rfl, rfl, rfl⟩ | exact ⟨rfl, rfl, rfl, rfl, rfl⟩ | exact ⟨rfl, rfl, rfl, rfl, rfl, rfl⟩ | rfl)) rfl ⟨rfl, bBel⟩

set_option maxHeartbeats 4000000 in
theorem rsep_b (A B_ : Option Addr) (ca cb : Nat) (ps qs : List (Int × Int)) (i : Nat) (hi : i < ps.length) (hq : 0 < qs.length) (hl : ps.length ≤ 4611686018427387904) (hm : qs.length ≤ 4611686018427387904) (w : World) (ha : Pts w A ps) (hb : Pts w B_ qs) : Calls Tryz.prog 101 #[.slice A ps.length ca, .int .i64 (i : Int), .slice B_ qs.length cb] w fun e w' => e = .returned (.int .i64 (sep ps i qs)) ∧ Below w.heap.size w w' := by
  have cN := fun w' h => rnor_b A ca ps (i : Int) hl w' h
  have hD : ∀ k, sepD ps i qs k = dot (eNor ps i).1 (eNor ps i).2 (sub (hp' qs k).1 (hp' ps i).1) (sub (hp' qs k).2 (hp' ps i).2) := fun k => rfl
  have h0 : Hid (sepm ps i qs 0 = sepD ps i qs 0) := rfl
  have hS : Hid (∀ k, sepm ps i qs (k + 1) = min (sepm ps i qs k) (sepD ps i qs (k + 1))) := fun _ => rfl
  have hE : Hid (sep ps i qs = sepm ps i qs (qs.length - 1)) := rfl
  generalize sep ps i qs = R at *
  have j0 : (0 : Int) ≤ (i : Int) := by omega
  have j1 : (i : Int) < (ps.length : Int) := by omega
  have q0 : (0 : Int) < (qs.length : Int) := by omega
  generalize (eNor ps i).1 = n1 at *
  generalize (eNor ps i).2 = n2 at *
  go_enter Tryz.func101, Tryz.ntmps101
  go_upto_region 2 with (go_at_call 60; refine Calls.mono (gw_at (cN _ (Pts.to ha bBel))) ?_; rintro e w1 ⟨rfl, q, rfl⟩)
  refine wp_named ?_
  intro W hW
  have hbW : Below w.heap.size w W := by rw [hW]; exact bBel
  have kN : blk W (w.heap.size + q.os.size) #[.int .i64 n1, .int .i64 n2] 27 := by rw [hW]; first | exact bBkn | exact (by apply blk_of; (repeat (first  | with_reducible apply blk_drew | with_reducible apply blk_gw | with_reducible apply blk_alloc | with_reducible apply blk_set | ((with_reducible apply blk_other); focus omega))); (first | rfl | simp))
  clear hW cN
  generalize w.heap.size + q.os.size = B at *
  have hA : Pts W A ps := Pts.to ha hbW
  have hB : Pts W B_ qs := Pts.to hb hbW
  obtain ⟨b, off, rfl, hc⟩ := pts_open hA (by omega)
  obtain ⟨b', off', rfl, hc'⟩ := pts_open hB (by omega)
  have hcI := fun p => hc p i hi
  rw [hp_get hi] at hD
  clear hc
  generalize ps[i].1 = ax at *
  generalize ps[i].2 = ay at *
  have hszW := hbW.size
  have hD0 := hD 0
  rw [hp_get hq] at hD0
  obtain ⟨c0, c1⟩ := hc' ⟨W.drawn, #[]⟩ 0 hq
  obtain ⟨e0, e1⟩ := hcI ⟨W.drawn, #[]⟩
  rw [gw_zero] at c0 c1 e0 e1
  rw [Nat.zero_mul, Nat.add_zero] at c0 c1
  have oc := older_of_cell c0
  have oe := older_of_cell e0
  have okN := blk_older kN
  have ckN_0 : _ = some _ := blk_cell kN 0
  have ckN_1 : _ = some _ := blk_cell kN 1
  have fkN_0 := blk_free kN 0
  have fkN_1 := blk_free kN 1
  generalize sepD ps i qs 0 = D0 at *
  generalize qs[0].1 = qx at *
  generalize qs[0].2 = qy at *
  refine wp_region_gw (by kernel_rfl) (by kernel_rfl) ?_
  repeat (go_big_quiet_step ((first | (go_at_call 23; exact gw_call (rvsub_b _ _ _ _ _)) | (go_at_call 105; exact gw_call (rdot_b _ _ _ _ _)))))
  refine wpQuiet_nil ?_
  intro w1 hw1
  obtain ⟨q, rfl⟩ := hw1
  rw [← hD0]
  clear hD0 c0 c1 e0 e1 oc oe ckN_0 ckN_1 fkN_0 fkN_1 okN
  go_wp2_with fail
  go_loopw [8, 9] (fun s k wr => ∃ m : Nat, 1 ≤ m ∧ m ≤ qs.length ∧ s = .int .i64 (sepm ps i qs (m - 1)) ∧ k = .int .i64 (m : Int) ∧ ∃ p, wr = gw W p)
    (fun _ k _ => (qs.length - intOf k).toNat)
  case atStart => exact ⟨1, by omega, by omega, by rw [← h0.out], rfl, ⟨_, rfl⟩⟩
  case round =>
    obtain ⟨m, hm1, hm2, rfl, rfl, p, rfl⟩ := hrel
    by_cases hlt : m < qs.length
    · have i0 : (0 : Int) ≤ (m : Int) := by omega
      have i1 : (m : Int) < (qs.length : Int) := by omega
      obtain ⟨c0, c1⟩ := hc' p m hlt
      obtain ⟨e0, e1⟩ := hcI p
      have oc := older_of_cell c0
      have oe := older_of_cell e0
      have kN2 := blk_gw (p := p) kN
      have okN2 := blk_older kN2
      have ckN2_0 : _ = some _ := blk_cell kN2 0
      have ckN2_1 : _ = some _ := blk_cell kN2 1
      have fkN2_0 := blk_free kN2 0
      have fkN2_1 := blk_free kN2 1
      have hDm := hD m
      rw [hp_get hlt] at hDm
      have hSm : Hid (sepm ps i qs (m + 1 - 1) = min (sepm ps i qs (m - 1)) (sepD ps i qs m)) := by
        have := hS.out (m - 1); rw [show m - 1 + 1 = m from by omega] at this; exact this
      generalize sepm ps i qs (m - 1) = S at *
      generalize qs[m].1 = qx at *
      generalize qs[m].2 = qy at *
      go_upto_region 6 with fail
      rw [hDm] at hSm
      clear hDm hD hS h0 hE hc' hcI
      refine wp_region_gw (by kernel_rfl) (by kernel_rfl) ?_
      repeat (go_big_quiet_step ((first | (go_at_call 23; exact gw_call (rvsub_b _ _ _ _ _)) | (go_at_call 105; exact gw_call (rdot_b _ _ _ _ _)))))
      refine wpQuiet_nil ?_
      intro w1 hw1
      obtain ⟨q, rfl⟩ := hw1
      go_wp2_with fail
      exact ⟨⟨m + 1, by omega, by omega, by rw [hSm.out], by go_num, gw_of_below bBel⟩, by (try go_num); simp [intOf]; (try omega)⟩
    · obtain rfl : m = qs.length := by omega
      have i1 : ¬ (qs.length : Int) < (qs.length : Int) := by omega
      rw [← hE.out]
      clear hD hS h0 hE
      go_wp2_with fail
      go_ret
      exact ⟨rfl, Below.trans hbW ((below_gw W p).mono hbW.size)⟩

set_option maxHeartbeats 4000000 in
theorem rmsep_b (A B_ : Option Addr) (ca cb : Nat) (ps qs : List (Int × Int)) (hl : ps.length ≤ 4611686018427387904) (hm : qs.length ≤ 4611686018427387904) (w : World) (ha : Pts w A ps) (hb : Pts w B_ qs) : Calls Tryz.prog 59 #[.slice A ps.length ca, .slice B_ qs.length cb] w fun e w' => e = .returned (.tuple #[.int .i64 (msep ps qs).1, .int .i64 (msep ps qs).2]) ∧ Below w.heap.size w w' := by
  by_cases hn : ps.length < 2 ∨ qs.length = 0
  focus
    rw [msep_none hn]
    dsimp only
    rcases (by omega : (ps.length : Int) < 2 ∨ (¬ (ps.length : Int) < 2 ∧ (qs.length : Int) = 0)) with c | ⟨c, d⟩
    · clear hn
      go_enter Tryz.func59, Tryz.ntmps59
      go_wp2_with fail
      exact bodyPost_ret (v := .tuple #[.int .i64 (-1), .int .i64 0]) (by simp [results, Tryz.results59, go_sem]) rfl ⟨rfl, bBel⟩
    · have d' : ((qs.length : Int) == 0) = true := by rw [beq_iff_eq]; exact d
      clear hn d
      go_enter Tryz.func59, Tryz.ntmps59
      go_wp2_with fail
      exact bodyPost_ret (v := .tuple #[.int .i64 (-1), .int .i64 0]) (by simp [results, Tryz.results59, go_sem]) rfl ⟨rfl, bBel⟩
  have n1 : ¬ (ps.length : Int) < 2 := by omega
  have n2 : ((qs.length : Int) == 0) = false := by rw [beq_eq_false_iff_ne]; omega
  have hP : 2 ≤ ps.length := by omega
  have hQ : 0 < qs.length := by omega
  have hE : Hid (msep ps qs = msf ps qs (ps.length - 1)) := if_neg hn
  have hS : Hid (∀ k, msf ps qs (k + 1) = if (msf ps qs k).2 < sep ps (k + 1) qs then (((k + 1 : Nat) : Int), sep ps (k + 1) qs) else msf ps qs k) := fun _ => rfl
  have h0 : Hid (msf ps qs 0 = (0, sep ps 0 qs)) := rfl
  have cS := fun (i : Nat) (hi : i < ps.length) w' h1 h2 => rsep_b A B_ ca cb ps qs i hi hQ hl hm w' h1 h2
  obtain ⟨⟨R1, R2⟩, hR⟩ : ∃ R, msep ps qs = R := ⟨_, rfl⟩
  rw [hR] at hE ⊢
  dsimp only
  clear hn hR
  have cS0 : ∀ w', Pts w' A ps → Pts w' B_ qs → Calls Tryz.prog 101 #[.slice A ps.length ca, .int .i64 0, .slice B_ qs.length cb] w' fun e w'' => e = .returned (.int .i64 (sep ps 0 qs)) ∧ Below w'.heap.size w' w'' := fun w' h1 h2 => cS 0 (by omega) w' h1 h2
  go_enter Tryz.func59, Tryz.ntmps59
  go_wp2_with (go_at_call 101; refine Calls.mono (gw_at (cS0 _ (Pts.to ha bBel) (Pts.to hb bBel))) ?_; rintro e w1 ⟨rfl, q, rfl⟩)
  clear cS0
  go_loopw [6, 7, 8] (fun s t k wr => ∃ m : Nat, 1 ≤ m ∧ m ≤ ps.length ∧ s = .int .i64 (msf ps qs (m - 1)).1 ∧ t = .int .i64 (msf ps qs (m - 1)).2 ∧ k = .int .i64 (m : Int) ∧ ∃ p, wr = gw w p)
    (fun _ _ k _ => (ps.length - intOf k).toNat)
  case atStart => exact ⟨1, by omega, by omega, by rw [show 1 - 1 = 0 from rfl, h0.out], by rw [show 1 - 1 = 0 from rfl, h0.out], rfl, ⟨_, rfl⟩⟩
  case round =>
    obtain ⟨m, hm1, hm2, rfl, rfl, rfl, p, rfl⟩ := hrel
    by_cases hlt : m < ps.length
    · have i1 : (m : Int) < (ps.length : Int) := by omega
      have cM := cS m hlt
      have hSm : Hid (msf ps qs (m + 1 - 1) = if (msf ps qs (m - 1)).2 < sep ps m qs then ((m : Int), sep ps m qs) else msf ps qs (m - 1)) := by
        have := hS.out (m - 1); rw [show m - 1 + 1 = m from by omega] at this; exact this
      clear cS
      generalize sep ps m qs = D at *
      generalize hF : msf ps qs (m - 1) = F at *
      clear hF
      obtain ⟨F1, F2⟩ := F
      dsimp only at hSm
      by_cases c : F2 < D
      · have hS2 : Hid (msf ps qs (m + 1 - 1) = ((m : Int), D)) := hSm.out.trans (if_pos c)
        clear hSm hS h0 hE
        go_wp2_with (go_at_call 101; refine Calls.mono (gw_at (cM _ (Pts.to ha bBel) (Pts.to hb bBel))) ?_; rintro e w1 ⟨rfl, q, rfl⟩)
        exact ⟨⟨m + 1, by omega, by omega, by rw [hS2.out], by rw [hS2.out], by go_num, gw_of_below bBel⟩, by (try go_num); simp [intOf]; (try omega)⟩
      · have hS2 : Hid (msf ps qs (m + 1 - 1) = (F1, F2)) := hSm.out.trans (if_neg c)
        clear hSm hS h0 hE
        go_wp2_with (go_at_call 101; refine Calls.mono (gw_at (cM _ (Pts.to ha bBel) (Pts.to hb bBel))) ?_; rintro e w1 ⟨rfl, q, rfl⟩)
        exact ⟨⟨m + 1, by omega, by omega, by rw [hS2.out], by rw [hS2.out], by go_num, gw_of_below bBel⟩, by (try go_num); simp [intOf]; (try omega)⟩
    · obtain rfl : m = ps.length := by omega
      have i1 : ¬ (ps.length : Int) < (ps.length : Int) := by omega
      rw [← hE.out]
      clear hS h0 hE cS
      go_wp2_with fail
      exact bodyPost_ret (v := .tuple #[.int .i64 R1, .int .i64 R2]) (by simp [results, Tryz.results59, go_sem]) rfl ⟨rfl, bBel⟩

set_option maxHeartbeats 4000000 in
theorem rinc_b (A : Option Addr) (cap : Nat) (ps : List (Int × Int)) (x y : Int) (hl : ps.length ≤ 4611686018427387904) (w : World) (ha : Pts w A ps) : Calls Tryz.prog 103 #[.slice A ps.length cap, .agg #[.int .i64 x, .int .i64 y]] w fun e w' => e = .returned (.int .i64 (inc ps x y)) ∧ Below w.heap.size w w' := by
  by_cases hn : ps.length < 2
  focus
    rw [inc_none x y hn]
    have c : (ps.length : Int) < 2 := by omega
    clear hn
    go_enter Tryz.func103, Tryz.ntmps103
    go_wp2_with fail
    go_ret
    exact ⟨rfl, bBel⟩
  have n1 : ¬ (ps.length : Int) < 2 := by omega
  have hP : 2 ≤ ps.length := by omega
  have hE : Hid (inc ps x y = (incf ps x y (ps.length - 1)).1) := if_neg hn
  have hS : Hid (∀ k, incf ps x y (k + 1) = if incD ps x y (k + 1) < (incf ps x y k).2 then (((k + 1 : Nat) : Int), incD ps x y (k + 1)) else incf ps x y k) := fun _ => rfl
  have h0 : Hid (incf ps x y 0 = (0, incD ps x y 0)) := rfl
  have cN := fun (i : Nat) w' h => rnor_b A cap ps (i : Int) hl w' h
  have hD : Hid (∀ i : Nat, incD ps x y i = dot (eNor ps i).1 (eNor ps i).2 x y) := fun _ => rfl
  generalize inc ps x y = R at *
  clear hn
  have hD0 := hD.out 0
  have cN0 : ∀ w', Pts w' A ps → Calls Tryz.prog 60 #[.slice A ps.length cap, .int .i64 0] w' fun e w'' => e = .returned (.agg #[.int .i64 (eNor ps ((0 : Nat) : Int)).1, .int .i64 (eNor ps ((0 : Nat) : Int)).2]) ∧ Below w'.heap.size w' w'' := fun w' h1 => cN 0 w' h1
  generalize (eNor ps ((0 : Nat) : Int)).1 = a0 at *
  generalize (eNor ps ((0 : Nat) : Int)).2 = b0 at *
  go_enter Tryz.func103, Tryz.ntmps103
  go_upto_region 3 with fail
  refine wp_region_gw (by kernel_rfl) (by kernel_rfl) ?_
  repeat (go_big_quiet_step (first | (go_at_call 60; exact gw_call (cN0 _ (Pts.to ha bBel))) | (go_at_call 105; exact gw_call (rdot_b _ _ _ _ _))))
  refine wpQuiet_nil ?_
  intro w1 hw1
  obtain ⟨q, rfl⟩ := hw1
  rw [← hD0]
  clear hD0 cN0
  go_wp2_with fail
  refine wp_named ?_
  intro W hW
  have hbW : Below w.heap.size w W := by rw [hW]; exact bBel
  have kV : blk W w.heap.size #[.int .i64 x, .int .i64 y] 27 := by rw [hW]; first | exact bBkn | exact (by apply blk_of; (repeat (first  | with_reducible apply blk_drew | with_reducible apply blk_gw | with_reducible apply blk_alloc | with_reducible apply blk_set | ((with_reducible apply blk_other); focus omega))); (first | rfl | simp))
  clear hW
  have hA : Pts W A ps := Pts.to ha hbW
  have hszW := hbW.size
  go_loopw [5, 6, 7] (fun s t k wr => ∃ m : Nat, 1 ≤ m ∧ m ≤ ps.length ∧ s = .int .i64 (incf ps x y (m - 1)).1 ∧ t = .int .i64 (incf ps x y (m - 1)).2 ∧ k = .int .i64 (m : Int) ∧ ∃ p, wr = gw W p)
    (fun _ _ k _ => (ps.length - intOf k).toNat)
  case atStart => exact ⟨1, by omega, by omega, by rw [show 1 - 1 = 0 from rfl, h0.out], by rw [show 1 - 1 = 0 from rfl, h0.out], rfl, ⟨⟨W.drawn, #[]⟩, (gw_zero W).symm⟩⟩
  case round =>
    obtain ⟨m, hm1, hm2, rfl, rfl, rfl, p, rfl⟩ := hrel
    by_cases hlt : m < ps.length
    · have i1 : (m : Int) < (ps.length : Int) := by omega
      have cM := cN m
      have hDm := hD.out m
      have hSm : Hid (incf ps x y (m + 1 - 1) = if incD ps x y m < (incf ps x y (m - 1)).2 then ((m : Int), incD ps x y m) else incf ps x y (m - 1)) := by
        have := hS.out (m - 1); rw [show m - 1 + 1 = m from by omega] at this; exact this
      have kV2 := blk_gw (p := p) kV
      have okV2 := blk_older kV2
      have ckV2_0 : _ = some _ := blk_cell kV2 0
      have ckV2_1 : _ = some _ := blk_cell kV2 1
      have fkV2_0 := blk_free kV2 0
      have fkV2_1 := blk_free kV2 1
      clear cN hD
      generalize (eNor ps (m : Int)).1 = a0 at *
      generalize (eNor ps (m : Int)).2 = b0 at *
      generalize incD ps x y m = D at *
      generalize hF : incf ps x y (m - 1) = F at *
      clear hF
      obtain ⟨F1, F2⟩ := F
      dsimp only at hSm
      go_upto_region 7 with fail
      refine wp_region_gw (by kernel_rfl) (by kernel_rfl) ?_
      repeat (go_big_quiet_step (first | (go_at_call 60; exact gw_call (cM _ (Pts.to hA bBel))) | (go_at_call 105; exact gw_call (rdot_b _ _ _ _ _))))
      refine wpQuiet_nil ?_
      intro w1 hw1
      obtain ⟨q2, rfl⟩ := hw1
      rw [← hDm]
      clear hDm cM
      by_cases c : D < F2
      · have hS2 : Hid (incf ps x y (m + 1 - 1) = ((m : Int), D)) := hSm.out.trans (if_pos c)
        clear hSm hS h0 hE
        go_wp2_with fail
        exact ⟨⟨m + 1, by omega, by omega, by rw [hS2.out], by rw [hS2.out], by go_num, gw_of_below bBel⟩, by (try go_num); simp [intOf]; (try omega)⟩
      · have hS2 : Hid (incf ps x y (m + 1 - 1) = (F1, F2)) := hSm.out.trans (if_neg c)
        clear hSm hS h0 hE
        go_wp2_with fail
        exact ⟨⟨m + 1, by omega, by omega, by rw [hS2.out], by rw [hS2.out], by go_num, gw_of_below bBel⟩, by (try go_num); simp [intOf]; (try omega)⟩
    · obtain rfl : m = ps.length := by omega
      have i1 : ¬ (ps.length : Int) < (ps.length : Int) := by omega
      rw [← hE.out]
      clear hS h0 hE cN hD
      go_wp2_with fail
      go_ret
      exact ⟨rfl, Below.trans hbW ((below_gw W p).mono hbW.size)⟩

end Go.Proofs.YtiecpebckmihgaaGreat
