/- Contracts of the reference of chapter 13: inverses, the inertia of a polygon.
Contracts of the reference of chapter 13, continued: mass data of a shape.
Contracts of the reference of chapter 13, continued: combinations.
Contracts of the reference of chapter 13, continued: mass data of fixtures. -/
import Derived.Test.YtdmcdicphohlfaaGreatCo9
import Derived.Test.YtdmcdicphohlfaaGreatMs1
import Derived.Test.YtdmcdicphohlfaaGreatKi3

set_option linter.unusedVariables false
namespace Go.Proofs.YtdmcdicphohlfaaGreat
open Go.RowKit Fx

theorem rinv_b (M x y I k : Int) (f : Bool) (w : World) : Calls Tryz.prog 73 #[.agg #[.int .i64 M, .int .i64 x, .int .i64 y, .int .i64 I], .int .i64 k, .bool f] w fun e w' => e = .returned (.tuple #[.int .i64 (invM M k), .int .i64 (invI I k f)]) ∧ Below w.heap.size w w' := by
  by_cases hk : k = 3
  rotate_left
  · have e1 : invM M k = 0 := if_pos hk
    have e2 : invI I k f = 0 := if_pos hk
    rw [e1, e2]
    have b1 : (k != 3) = true := by rw [bne_iff_ne]; exact hk
    clear hk e1 e2
    go_enter Tryz.func73, Tryz.ntmps73
    go_wp2_with (first | (go_at_call 149; refine Calls.mono (gw_at (rdiv_b _ _ _)) ?_; rintro e w1 ⟨rfl, q, rfl⟩))
    exact bodyPost_ret (v := .tuple #[.int .i64 0, .int .i64 0]) (by simp [results, Tryz.results73, go_sem]) rfl ⟨rfl, bBel⟩
  subst hk
  have e1 : invM M 3 = if 1 ≤ M then quo 65536 M else 65536 := if_neg (by decide)
  have e2 : invI I 3 f = if f = false ∧ 1 ≤ I then quo 65536 I else 0 := if_neg (by decide)
  rw [e1, e2]
  clear e1 e2
  by_cases hM : 1 ≤ M
  · rw [if_pos hM]
    cases f
    · by_cases hI : 1 ≤ I
      · rw [if_pos ⟨rfl, hI⟩]
        go_enter Tryz.func73, Tryz.ntmps73
        go_wp2_with (first | (go_at_call 149; refine Calls.mono (gw_at (rdiv_b _ _ _)) ?_; rintro e w1 ⟨rfl, q, rfl⟩))
        exact bodyPost_ret (v := .tuple #[.int .i64 (quo 65536 M), .int .i64 (quo 65536 I)]) (by simp [results, Tryz.results73, go_sem]) rfl ⟨rfl, bBel⟩
      · rw [if_neg (fun h => hI h.2)]
        go_enter Tryz.func73, Tryz.ntmps73
        go_wp2_with (first | (go_at_call 149; refine Calls.mono (gw_at (rdiv_b _ _ _)) ?_; rintro e w1 ⟨rfl, q, rfl⟩))
        exact bodyPost_ret (v := .tuple #[.int .i64 (quo 65536 M), .int .i64 0]) (by simp [results, Tryz.results73, go_sem]) rfl ⟨rfl, bBel⟩
    · rw [if_neg (fun h => by cases h.1)]
      go_enter Tryz.func73, Tryz.ntmps73
      go_wp2_with (first | (go_at_call 149; refine Calls.mono (gw_at (rdiv_b _ _ _)) ?_; rintro e w1 ⟨rfl, q, rfl⟩))
      exact bodyPost_ret (v := .tuple #[.int .i64 (quo 65536 M), .int .i64 0]) (by simp [results, Tryz.results73, go_sem]) rfl ⟨rfl, bBel⟩
  · rw [if_neg hM]
    cases f
    · by_cases hI : 1 ≤ I
      · rw [if_pos ⟨rfl, hI⟩]
        go_enter Tryz.func73, Tryz.ntmps73
        go_wp2_with (first | (go_at_call 149; refine Calls.mono (gw_at (rdiv_b _ _ _)) ?_; rintro e w1 ⟨rfl, q, rfl⟩))
        exact bodyPost_ret (v := .tuple #[.int .i64 65536, .int .i64 (quo 65536 I)]) (by simp [results, Tryz.results73, go_sem]) rfl ⟨rfl, bBel⟩
      · rw [if_neg (fun h => hI h.2)]
        go_enter Tryz.func73, Tryz.ntmps73
        go_wp2_with (first | (go_at_call 149; refine Calls.mono (gw_at (rdiv_b _ _ _)) ?_; rintro e w1 ⟨rfl, q, rfl⟩))
        exact bodyPost_ret (v := .tuple #[.int .i64 65536, .int .i64 0]) (by simp [results, Tryz.results73, go_sem]) rfl ⟨rfl, bBel⟩
    · rw [if_neg (fun h => by cases h.1)]
      go_enter Tryz.func73, Tryz.ntmps73
      go_wp2_with (first | (go_at_call 149; refine Calls.mono (gw_at (rdiv_b _ _ _)) ?_; rintro e w1 ⟨rfl, q, rfl⟩))
      exact bodyPost_ret (v := .tuple #[.int .i64 65536, .int .i64 0]) (by simp [results, Tryz.results73, go_sem]) rfl ⟨rfl, bBel⟩

theorem kk_in (ps : List (Int × Int)) (cx cy : Int) (i : Nat) : -536870911 ≤ kkI ps cx cy i ∧ kkI ps cx cy i ≤ 536870911 := ⟨cross_ge _ _ _ _, cross_le _ _ _ _⟩
theorem dot_in (a b c d : Int) : -536870911 ≤ dot a b c d ∧ dot a b c d ≤ 536870911 := ⟨sat_ge _, sat_le _⟩
theorem dd_in (ps : List (Int × Int)) (cx cy : Int) (i : Nat) : -1610612733 ≤ ddI ps cx cy i ∧ ddI ps cx cy i ≤ 1610612733 := by
  unfold ddI
  have h1 := dot_in (sub (hp' ps i).1 cx) (sub (hp' ps i).2 cy) (sub (hp' ps i).1 cx) (sub (hp' ps i).2 cy)
  have h2 := dot_in (sub (hp' ps i).1 cx) (sub (hp' ps i).2 cy) (sub (hp' ps (i + 1)).1 cx) (sub (hp' ps (i + 1)).2 cy)
  have h3 := dot_in (sub (hp' ps (i + 1)).1 cx) (sub (hp' ps (i + 1)).2 cy) (sub (hp' ps (i + 1)).1 cx) (sub (hp' ps (i + 1)).2 cy)
  omega
theorem sums_in (ps : List (Int × Int)) (cx cy : Int) : ∀ k : Nat, (-536870911 * (k : Int) ≤ sumB ps cx cy k ∧ sumB ps cx cy k ≤ 536870911 * (k : Int)) ∧ -864691125233909763 * (k : Int) ≤ sumA ps cx cy k ∧ sumA ps cx cy k ≤ 864691125233909763 * (k : Int)
  | 0 => by unfold sumA sumB; omega
  | k + 1 => by
    have ih := sums_in ps cx cy k
    have h1 := kk_in ps cx cy k
    have h2 := dd_in ps cx cy k
    have p := mul_between h1.1 h1.2 h2.1 h2.2
    unfold sumA sumB
    generalize kkI ps cx cy k * ddI ps cx cy k = z at *
    omega

set_option maxHeartbeats 4000000 in
theorem rpin_b (A : Option Addr) (cap : Nat) (ps : List (Int × Int)) (cx cy m : Int) (hl : ps.length ≤ 8) (w : World) (ha : Pts w A ps) : Calls Tryz.prog 198 #[.slice A ps.length cap, .agg #[.int .i64 cx, .int .i64 cy], .int .i64 m] w fun e w' => e = .returned (.int .i64 (pin ps cx cy m)) ∧ Below w.heap.size w w' := by
  have hsA : ∀ k, k < ps.length → Hid (sumA ps cx cy (k + 1) = sumA ps cx cy k + kkI ps cx cy k * ddI ps cx cy k) := fun k _ => rfl
  have hsB : ∀ k, k < ps.length → Hid (sumB ps cx cy (k + 1) = sumB ps cx cy k + kkI ps cx cy k) := fun k _ => rfl
  have hin := sums_in ps cx cy
  have hp : Hid (pin ps cx cy m = if sumB ps cx cy ps.length < 1 then 0 else mul m (rdiv (rdiv (sumA ps cx cy ps.length) (sumB ps cx cy ps.length)) 6)) := rfl
  obtain ⟨Z, hZ⟩ : ∃ Z, Hid (pin ps cx cy m = Z) := ⟨pin ps cx cy m, rfl⟩
  rw [hZ.out]
  have hA0 : sumA ps cx cy 0 = 0 := rfl
  have hB0 : sumB ps cx cy 0 = 0 := rfl
  go_enter Tryz.func198, Tryz.ntmps198
  go_wp2_with fail
  refine wp_named ?_
  intro W hW
  have kC : blk W w.heap.size #[.int .i64 cx, .int .i64 cy] 24 := by rw [hW]; exact bBkn
  have hbW : Below w.heap.size w W := by rw [hW]; exact bBel
  clear hW
  have hszW := hbW.size
  have hP : Pts W A ps := Pts.to ha hbW
  have okC := blk_older kC
  have ckC_0 : _ = some _ := blk_cell kC 0
  have ckC_1 : _ = some _ := blk_cell kC 1
  have fkC_0 := blk_free kC 0
  have fkC_1 := blk_free kC 1
  go_loopw [7, 8, 9] (fun a b i wr => ∃ k : Nat, k ≤ ps.length ∧ i = .int .i64 (k : Int) ∧ a = .int .i64 (sumA ps cx cy k) ∧ b = .int .i64 (sumB ps cx cy k) ∧ ∃ p, wr = gw W p)
    (fun _ _ i _ => (ps.length - intOf i).toNat)
  case atStart => exact ⟨0, by omega, rfl, by rw [hA0], by rw [hB0], ⟨⟨W.drawn, #[]⟩, (gw_zero W).symm⟩⟩
  case round =>
    obtain ⟨k, hk, rfl, rfl, rfl, p, rfl⟩ := hrel
    by_cases hlt : k < ps.length
    · have j0 : (0 : Int) ≤ (k : Int) := by omega
      have j1 : (k : Int) < (ps.length : Int) := by omega
      obtain ⟨b2, off2, hA2, hc2⟩ := pts_open hP (by omega)
      subst hA2
      have hmod := Nat.mod_lt (k + 1) (show 0 < ps.length by omega)
      have hm : ((k : Int) + 1).tmod (ps.length : Int) = (((k + 1) % ps.length : Nat) : Int) := by
        rw [show (k : Int) + 1 = ((k + 1 : Nat) : Int) from by omega]; first | exact (Int.ofNat_tmod _ _).symm | exact (Int.natCast_tmod _ _).symm | (rw [Int.tmod_eq_emod_of_nonneg (by omega)]; exact (Int.natCast_emod _ _).symm)
      have hnz : ((ps.length : Int) == 0) = false := by rw [beq_eq_false_iff_ne]; omega
      have hkk : Hid (kkI ps cx cy k = cross (sub (hp' ps k).1 cx) (sub (hp' ps k).2 cy) (sub (hp' ps (k + 1)).1 cx) (sub (hp' ps (k + 1)).2 cy)) := rfl
      have hdd : Hid (ddI ps cx cy k = dot (sub (hp' ps k).1 cx) (sub (hp' ps k).2 cy) (sub (hp' ps k).1 cx) (sub (hp' ps k).2 cy) + dot (sub (hp' ps k).1 cx) (sub (hp' ps k).2 cy) (sub (hp' ps (k + 1)).1 cx) (sub (hp' ps (k + 1)).2 cy) + dot (sub (hp' ps (k + 1)).1 cx) (sub (hp' ps (k + 1)).2 cy) (sub (hp' ps (k + 1)).1 cx) (sub (hp' ps (k + 1)).2 cy)) := rfl
      have q1 := hin k
      have q2 := hin (k + 1)
      have q3 := kk_in ps cx cy k
      have q4 := dd_in ps cx cy k
      have q5 := mul_between q3.1 q3.2 q4.1 q4.2
      have hA1 := hsA k hlt
      have hB1 := hsB k hlt
      rw [← hp_mod ps (k + 1)] at hkk hdd
      generalize (k + 1) % ps.length = nx at *
      rw [hp_get hlt, hp_get hmod] at hkk hdd
      have x0 : (0 : Int) ≤ (nx : Int) := by omega
      have x1 : (nx : Int) < (ps.length : Int) := by omega
      obtain ⟨d0, d1⟩ := hc2 p k hlt
      obtain ⟨f0, f1⟩ := hc2 p nx hmod
      have ob := older_of_cell d0
      clear hc2 hsA hsB hA0 hB0 hp hZ
      generalize ps[k].1 = xk at *
      generalize ps[k].2 = yk at *
      generalize ps[nx].1 = xn at *
      generalize ps[nx].2 = yn at *
      go_wp2_with fail
      apply wp_box1 7 64 6 10 #[.int .i64 0, .int .i64 0] 24 (by kernel_rfl) (by rfl) (by kernel_rfl) (by intro o ho a w; simp at ho; subst ho; simp [go_sem, ptr])
      · intro p0
        simp only [heads, ghost, List.take_succ_cons, List.take_zero, List.map_cons, List.map_nil]
        repeat (go_big_quiet_step ((first | (go_at_call 79; exact gw_call (rvsub_b _ _ _ _ _)) | (go_at_call 87; exact gw_call (rcross_b _ _ _ _ _)) | (go_at_call 199; exact gw_call (rdot_b _ _ _ _ _)) | (go_at_call 159; exact gw_call (rrd_b _ _ _)) | (go_at_call 86; exact gw_call (rmul_b _ _ _)))))
        exact wpQuiet_nil rfl
      · intro R bB p0 nB gB  kB hK
        simp only [List.drop_succ_cons, List.drop_zero, Act.put, ptr, List.setIfInBounds_toArray, List.set_cons_succ, List.set_cons_zero]
        have cB_0 : _ = some _ := blk_cell kB 0
        have cB_1 : _ = some _ := blk_cell kB 1
        have fB_0 := blk_free kB 0
        have fB_1 := blk_free kB 1
        have oB := blk_older kB
        go_wp2_with fail
        refine box_end1 gB hK ?_ ?_
        · exact bBel
        · exact (by repeat' (first | with_reducible assumption | with_reducible apply blk_gw | with_reducible apply blk_alloc | with_reducible apply blk_set | ((with_reducible apply blk_other); focus (first | omega | assumption))))
      intro bB p0 nB  kB
      have cB_0 : _ = some _ := blk_cell kB 0
      have cB_1 : _ = some _ := blk_cell kB 1
      have fB_0 := blk_free kB 0
      have fB_1 := blk_free kB 1
      have oB := blk_older kB
      go_wp2_with fail
      apply wp_box1 11 64 10 11 #[.int .i64 0, .int .i64 0] 24 (by kernel_rfl) (by rfl) (by kernel_rfl) (by intro o ho a w; simp at ho; subst ho; simp [go_sem, ptr])
      · intro p0
        simp only [heads, ghost, List.take_succ_cons, List.take_zero, List.map_cons, List.map_nil]
        repeat (go_big_quiet_step ((first | (go_at_call 79; exact gw_call (rvsub_b _ _ _ _ _)) | (go_at_call 87; exact gw_call (rcross_b _ _ _ _ _)) | (go_at_call 199; exact gw_call (rdot_b _ _ _ _ _)) | (go_at_call 159; exact gw_call (rrd_b _ _ _)) | (go_at_call 86; exact gw_call (rmul_b _ _ _)))))
        exact wpQuiet_nil rfl
      · intro R bB p0 nB gB  kB hK
        simp only [List.drop_succ_cons, List.drop_zero, Act.put, ptr, List.setIfInBounds_toArray, List.set_cons_succ, List.set_cons_zero]
        have cB_0 : _ = some _ := blk_cell kB 0
        have cB_1 : _ = some _ := blk_cell kB 1
        have fB_0 := blk_free kB 0
        have fB_1 := blk_free kB 1
        have oB := blk_older kB
        go_wp2_with fail
        refine box_end1 gB hK ?_ ?_
        · exact bBel
        · exact (by repeat' (first | with_reducible assumption | with_reducible apply blk_gw | with_reducible apply blk_alloc | with_reducible apply blk_set | ((with_reducible apply blk_other); focus (first | omega | assumption))))
      intro bB p0 nB  kB
      have cB_0 : _ = some _ := blk_cell kB 0
      have cB_1 : _ = some _ := blk_cell kB 1
      have fB_0 := blk_free kB 0
      have fB_1 := blk_free kB 1
      have oB := blk_older kB
      have cK : ∀ w', Calls Tryz.prog 87 #[.agg #[.int .i64 (sub xk cx), .int .i64 (sub yk cy)], .agg #[.int .i64 (sub xn cx), .int .i64 (sub yn cy)]] w' fun e w'' => e = .returned (.int .i64 (kkI ps cx cy k)) ∧ Below w'.heap.size w' w'' := fun w' => by rw [hkk.out]; exact rcross_b _ _ _ _ _
      have cD1 := fun w' => rdot_b (sub xk cx) (sub yk cy) (sub xk cx) (sub yk cy) w'
      have cD2 := fun w' => rdot_b (sub xk cx) (sub yk cy) (sub xn cx) (sub yn cy) w'
      have cD3 := fun w' => rdot_b (sub xn cx) (sub yn cy) (sub xn cx) (sub yn cy) w'
      have b1 := dot_in (sub xk cx) (sub yk cy) (sub xk cx) (sub yk cy)
      have b2 := dot_in (sub xk cx) (sub yk cy) (sub xn cx) (sub yn cy)
      have b3 := dot_in (sub xn cx) (sub yn cy) (sub xn cx) (sub yn cy)
      have hd := hdd.out
      clear hkk hdd
      generalize dot (sub xk cx) (sub yk cy) (sub xk cx) (sub yk cy) = D1 at *
      generalize dot (sub xk cx) (sub yk cy) (sub xn cx) (sub yn cy) = D2 at *
      generalize dot (sub xn cx) (sub yn cy) (sub xn cx) (sub yn cy) = D3 at *
      generalize kkI ps cx cy k = KK at *
      generalize ddI ps cx cy k = DD at *
      subst hd
      have g1 : wrap64 (D1 + D2) = D1 + D2 := by unfold wrap64; omega
      have g2 : wrap64 (D1 + D2 + D3) = D1 + D2 + D3 := by unfold wrap64; omega
      have hA2 := hA1.out
      have hB2 := hB1.out
      have g3 : wrap64 (KK * (D1 + D2 + D3)) = KK * (D1 + D2 + D3) := by unfold wrap64; omega
      have g4 : wrap64 (sumA ps cx cy k + KK * (D1 + D2 + D3)) = sumA ps cx cy k + KK * (D1 + D2 + D3) := by rw [← hA2]; unfold wrap64; omega
      have g5 : wrap64 (sumB ps cx cy k + KK) = sumB ps cx cy k + KK := by rw [← hB2]; unfold wrap64; omega
      clear hA2 hB2 q1 q2 q3 q4 q5 hin
      generalize sumA ps cx cy k = SA at *
      generalize sumB ps cx cy k = SB at *
      go_wp2_with (go_at_call 87; refine Calls.mono (gw_at (cK _)) ?_; rintro e w1 ⟨rfl, q, rfl⟩)
      refine wp_region_gw (by kernel_rfl) (by kernel_rfl) ?_
      repeat (go_big_quiet_step (first | (go_at_call 199; (with_reducible show Calls _ _ #[.agg #[.int .i64 (sub xk cx), _], .agg #[.int .i64 (sub xk cx), _]] _ _); exact gw_call (cD1 _)) | (go_at_call 199; (with_reducible show Calls _ _ #[.agg #[.int .i64 (sub xk cx), _], .agg #[.int .i64 (sub xn cx), _]] _ _); exact gw_call (cD2 _)) | (go_at_call 199; (with_reducible show Calls _ _ #[.agg #[.int .i64 (sub xn cx), _], .agg #[.int .i64 (sub xn cx), _]] _ _); exact gw_call (cD3 _))))
      refine wpQuiet_nil ?_
      intro w1 hw1
      obtain ⟨q9, rfl⟩ := hw1
      go_wp2_with fail
      exact ⟨⟨k + 1, by omega, by go_num, by rw [hA1.out, g4], by rw [hB1.out, g5], gw_of_below bBel⟩, by (try go_num); simp [intOf]; (try omega)⟩
    · obtain rfl : k = ps.length := by omega
      have j1 : ¬ (ps.length : Int) < (ps.length : Int) := by omega
      have hpz := hp.out
      rw [hZ.out] at hpz
      clear hsA hsB hA0 hB0 hp hZ hin
      by_cases hB : sumB ps cx cy ps.length < 1
      · rw [if_pos hB] at hpz
        subst hpz
        go_wp2_with fail
        go_ret
        exact ⟨rfl, bBel⟩
      · rw [if_neg hB] at hpz
        subst hpz
        go_wp2_with (first | (go_at_call 79; refine Calls.mono (gw_at (rvsub_b _ _ _ _ _)) ?_; rintro e w1 ⟨rfl, q, rfl⟩) | (go_at_call 87; refine Calls.mono (gw_at (rcross_b _ _ _ _ _)) ?_; rintro e w1 ⟨rfl, q, rfl⟩) | (go_at_call 199; refine Calls.mono (gw_at (rdot_b _ _ _ _ _)) ?_; rintro e w1 ⟨rfl, q, rfl⟩) | (go_at_call 159; refine Calls.mono (gw_at (rrd_b _ _ _)) ?_; rintro e w1 ⟨rfl, q, rfl⟩) | (go_at_call 86; refine Calls.mono (gw_at (rmul_b _ _ _)) ?_; rintro e w1 ⟨rfl, q, rfl⟩))
        go_ret
        exact ⟨rfl, bBel⟩

end Go.Proofs.YtdmcdicphohlfaaGreat

set_option linter.unusedVariables false
namespace Go.Proofs.YtdmcdicphohlfaaGreat
open Go.RowKit Fx

set_option maxRecDepth 100000 in
set_option maxHeartbeats 8000000 in
theorem rofs_b (K R : Int) (A : Option Addr) (cap : Nat) (ps : List (Int × Int)) (D : Int) (hl : ps.length ≤ 4611686018427387904) (w : World) (hp : Pts w A ps) : Calls Tryz.prog 142 #[.agg #[.int .i64 K, .int .i64 R, .slice A ps.length cap], .int .i64 D] w fun e w' => e = .returned (.agg #[.int .i64 (ofS K R ps D).m, .int .i64 (ofS K R ps D).x, .int .i64 (ofS K R ps D).y, .int .i64 (ofS K R ps D).i]) ∧ Below w.heap.size w w' := by
  have cV := fun w' h => rval_b K R A cap ps hl w' h
  by_cases hno : valS K R ps ≠ 0 ∨ D < 0 ∨ 262144 < D
  · rw [ofS_no hno]
    by_cases hv : valS K R ps = 0
    · rw [hv] at cV
      by_cases h0 : D < 0
      · clear hno hv
        go_enter Tryz.func142, Tryz.ntmps142
        go_wp2_with (go_at_call 62; refine Calls.mono (gw_at (cV _ (Pts.to hp bBel))) ?_; rintro e w1 ⟨rfl, q, rfl⟩)
        refine post_named ?_
        intro Z hZ
        have kZ : blk Z (w.heap.size + 1) #[.int .i64 0, .int .i64 0, .int .i64 0, .int .i64 0] 49 := by rw [hZ]; exact bBkn
        have hbZ : Below w.heap.size w Z := by rw [hZ]; exact bBel
        clear hZ
        have okZ := blk_older kZ
        have ckZ_0 : _ = some _ := blk_cell kZ 0
        have ckZ_1 : _ = some _ := blk_cell kZ 1
        have ckZ_2 : _ = some _ := blk_cell kZ 2
        have ckZ_3 : _ = some _ := blk_cell kZ 3
        have fkZ_0 := blk_free kZ 0
        have fkZ_1 := blk_free kZ 1
        have fkZ_2 := blk_free kZ 2
        have fkZ_3 := blk_free kZ 3
        exact bodyPost_ret (v := .agg #[.int .i64 0, .int .i64 0, .int .i64 0, .int .i64 0]) (by simp [results, Tryz.results142, go_sem, ckZ_0, ckZ_1, ckZ_2, ckZ_3]) rfl ⟨rfl, hbZ⟩
      · have h1 : 262144 < D := by omega
        clear hno hv
        go_enter Tryz.func142, Tryz.ntmps142
        go_wp2_with (go_at_call 62; refine Calls.mono (gw_at (cV _ (Pts.to hp bBel))) ?_; rintro e w1 ⟨rfl, q, rfl⟩)
        refine post_named ?_
        intro Z hZ
        have kZ : blk Z (w.heap.size + 1) #[.int .i64 0, .int .i64 0, .int .i64 0, .int .i64 0] 49 := by rw [hZ]; exact bBkn
        have hbZ : Below w.heap.size w Z := by rw [hZ]; exact bBel
        clear hZ
        have okZ := blk_older kZ
        have ckZ_0 : _ = some _ := blk_cell kZ 0
        have ckZ_1 : _ = some _ := blk_cell kZ 1
        have ckZ_2 : _ = some _ := blk_cell kZ 2
        have ckZ_3 : _ = some _ := blk_cell kZ 3
        have fkZ_0 := blk_free kZ 0
        have fkZ_1 := blk_free kZ 1
        have fkZ_2 := blk_free kZ 2
        have fkZ_3 := blk_free kZ 3
        exact bodyPost_ret (v := .agg #[.int .i64 0, .int .i64 0, .int .i64 0, .int .i64 0]) (by simp [results, Tryz.results142, go_sem, ckZ_0, ckZ_1, ckZ_2, ckZ_3]) rfl ⟨rfl, hbZ⟩
    · have b1 : (valS K R ps != 0) = true := by rw [bne_iff_ne]; exact hv
      clear hno hv
      generalize valS K R ps = V at *
      go_enter Tryz.func142, Tryz.ntmps142
      go_wp2_with (go_at_call 62; refine Calls.mono (gw_at (cV _ (Pts.to hp bBel))) ?_; rintro e w1 ⟨rfl, q, rfl⟩)
      refine post_named ?_
      intro Z hZ
      have kZ : blk Z (w.heap.size + 1) #[.int .i64 0, .int .i64 0, .int .i64 0, .int .i64 0] 49 := by rw [hZ]; exact bBkn
      have hbZ : Below w.heap.size w Z := by rw [hZ]; exact bBel
      clear hZ
      have okZ := blk_older kZ
      have ckZ_0 : _ = some _ := blk_cell kZ 0
      have ckZ_1 : _ = some _ := blk_cell kZ 1
      have ckZ_2 : _ = some _ := blk_cell kZ 2
      have ckZ_3 : _ = some _ := blk_cell kZ 3
      have fkZ_0 := blk_free kZ 0
      have fkZ_1 := blk_free kZ 1
      have fkZ_2 := blk_free kZ 2
      have fkZ_3 := blk_free kZ 3
      exact bodyPost_ret (v := .agg #[.int .i64 0, .int .i64 0, .int .i64 0, .int .i64 0]) (by simp [results, Tryz.results142, go_sem, ckZ_0, ckZ_1, ckZ_2, ckZ_3]) rfl ⟨rfl, hbZ⟩
  have hv : valS K R ps = 0 := by omega
  have h0 : ¬ D < 0 := by omega
  have h1 : ¬ 262144 < D := by omega
  have hlen := val_len hv
  have hK := (valS_zero.1 hv).1
  rw [hv] at cV
  rcases (by omega : K = 1 ∨ K = 2 ∨ K = 3) with rfl | rfl | rfl
  · rw [ofS_1 hv (by omega) (by omega) rfl]
    unfold disk
    dsimp only
    have h1l : 0 < ps.length := by omega
    rw [hp_get h1l]
    obtain ⟨b1, off1, hA1, hc1⟩ := pts_open0 hp h1l
    subst hA1
    obtain ⟨d0, d1⟩ := hc1 0 h1l
    simp only [Nat.zero_mul, Nat.add_zero] at d0 d1
    have o1 := older_of_cell d0
    have j0 : (0 : Int) < (ps.length : Int) := by omega
    clear hno hv hlen hK hc1
    obtain ⟨x0, hx0⟩ : ∃ x, Hid (ps[0].1 = x) := ⟨ps[0].1, rfl⟩
    obtain ⟨y0, hy0⟩ : ∃ y, Hid (ps[0].2 = y) := ⟨ps[0].2, rfl⟩
    rw [hx0.out, hy0.out]
    rw [hx0.out] at d0
    rw [hy0.out] at d1
    clear hx0 hy0
    go_enter Tryz.func142, Tryz.ntmps142
    go_wp2_with (first | (go_at_call 62; refine Calls.mono (gw_at (cV _ (Pts.to hp bBel))) ?_; rintro e w1 ⟨rfl, q, rfl⟩) | (go_at_call 86; refine Calls.mono (gw_at (rmul_b _ _ _)) ?_; rintro e w1 ⟨rfl, q, rfl⟩))
    refine wp_region_gw_tail 10 (by kernel_rfl) (by kernel_rfl) ?_
    simp only [List.take_succ_cons, List.take_zero, List.drop_succ_cons, List.drop_zero]
    repeat (go_big_quiet_step ((first | (go_at_call 62; exact gw_call (cV _ (Pts.to hP bBel))) | (go_at_call 86; exact gw_call (rmul_b _ _ _)) | (go_at_call 159; exact gw_call (rrd_b _ _ _)) | (go_at_call 79; exact gw_call (rvsub_b _ _ _ _ _)) | (go_at_call 130; exact gw_call (rvlen_b _ _ _)) | (go_at_call 89; exact gw_call (radd_b _ _ _)) | (go_at_call 196; exact gw_call (rvlerp_b _ _ _ _ _ _)))))
    refine wpQuiet_nil ?_
    intro w1 hw1
    obtain ⟨q, rfl⟩ := hw1
    go_wp2_with fail
    refine post_named ?_
    intro Z hZ
    have kZ : blk Z (w.heap.size + 1) #[.int .i64 (mul (mul 205888 (mul R R)) D), .int .i64 x0, .int .i64 y0, .int .i64 (mul (mul (mul 205888 (mul R R)) D) (rdiv (mul R R) 2))] 49 := by rw [hZ]; first | exact bBkn | exact (by apply blk_of; (repeat (first  | with_reducible apply blk_drew | with_reducible apply blk_gw | with_reducible apply blk_alloc | with_reducible apply blk_set | ((with_reducible apply blk_other); focus omega))); (first | rfl | simp))
    have hbZ : Below w.heap.size w Z := by rw [hZ]; exact bBel
    clear hZ
    have okZ := blk_older kZ
    have ckZ_0 : _ = some _ := blk_cell kZ 0
    have ckZ_1 : _ = some _ := blk_cell kZ 1
    have ckZ_2 : _ = some _ := blk_cell kZ 2
    have ckZ_3 : _ = some _ := blk_cell kZ 3
    have fkZ_0 := blk_free kZ 0
    have fkZ_1 := blk_free kZ 1
    have fkZ_2 := blk_free kZ 2
    have fkZ_3 := blk_free kZ 3
    exact bodyPost_ret (v := .agg #[.int .i64 (mul (mul 205888 (mul R R)) D), .int .i64 x0, .int .i64 y0, .int .i64 (mul (mul (mul 205888 (mul R R)) D) (rdiv (mul R R) 2))]) (by simp [results, Tryz.results142, go_sem, ckZ_0, ckZ_1, ckZ_2, ckZ_3]) rfl ⟨rfl, hbZ⟩
  · rw [ofS_2 hv (by omega) (by omega) rfl]
    unfold capm capl disk
    dsimp only
    have h1l : 0 < ps.length := by omega
    have h2l : 1 < ps.length := by have := hlen.2.2.2.1 rfl; omega
    rw [hp_get h1l, hp_get h2l]
    obtain ⟨b1, off1, hA1, hc1⟩ := pts_open0 hp h1l
    subst hA1
    obtain ⟨d0, d1⟩ := hc1 0 h1l
    obtain ⟨g0, g1⟩ := hc1 1 h2l
    simp only [Nat.zero_mul, Nat.one_mul, Nat.add_zero] at d0 d1 g0 g1
    have o1 := older_of_cell d0
    have j0 : (0 : Int) < (ps.length : Int) := by omega
    have j1 : (1 : Int) < (ps.length : Int) := by omega
    clear hno hv hlen hK hc1
    obtain ⟨x0, hx0⟩ : ∃ x, Hid (ps[0].1 = x) := ⟨ps[0].1, rfl⟩
    obtain ⟨y0, hy0⟩ : ∃ y, Hid (ps[0].2 = y) := ⟨ps[0].2, rfl⟩
    obtain ⟨x1, hx1⟩ : ∃ x, Hid (ps[1].1 = x) := ⟨ps[1].1, rfl⟩
    obtain ⟨y1, hy1⟩ : ∃ y, Hid (ps[1].2 = y) := ⟨ps[1].2, rfl⟩
    rw [hx0.out, hy0.out, hx1.out, hy1.out]
    rw [hx0.out] at d0
    rw [hy0.out] at d1
    rw [hx1.out] at g0
    rw [hy1.out] at g1
    clear hx0 hy0 hx1 hy1
    go_enter Tryz.func142, Tryz.ntmps142
    go_wp2_with (first | (go_at_call 62; refine Calls.mono (gw_at (cV _ (Pts.to hp bBel))) ?_; rintro e w1 ⟨rfl, q, rfl⟩) | (go_at_call 86; refine Calls.mono (gw_at (rmul_b _ _ _)) ?_; rintro e w1 ⟨rfl, q, rfl⟩))
    refine wp_region_gw (by kernel_rfl) (by kernel_rfl) ?_
    repeat (go_big_quiet_step ((first | (go_at_call 62; exact gw_call (cV _ (Pts.to hP bBel))) | (go_at_call 86; exact gw_call (rmul_b _ _ _)) | (go_at_call 159; exact gw_call (rrd_b _ _ _)) | (go_at_call 79; exact gw_call (rvsub_b _ _ _ _ _)) | (go_at_call 130; exact gw_call (rvlen_b _ _ _)) | (go_at_call 89; exact gw_call (radd_b _ _ _)) | (go_at_call 196; exact gw_call (rvlerp_b _ _ _ _ _ _)))))
    refine wpQuiet_nil ?_
    intro w1 hw1
    obtain ⟨q, rfl⟩ := hw1
    go_wp2_with (first | (go_at_call 86; refine Calls.mono (gw_at (rmul_b _ _ _)) ?_; rintro e w1 ⟨rfl, q, rfl⟩) | (go_at_call 89; refine Calls.mono (gw_at (radd_b _ _ _)) ?_; rintro e w1 ⟨rfl, q, rfl⟩))
    refine wp_region_gw_tail 20 (by kernel_rfl) (by kernel_rfl) ?_
    simp only [List.take_succ_cons, List.take_zero, List.drop_succ_cons, List.drop_zero]
    repeat (go_big_quiet_step ((first | (go_at_call 62; exact gw_call (cV _ (Pts.to hP bBel))) | (go_at_call 86; exact gw_call (rmul_b _ _ _)) | (go_at_call 159; exact gw_call (rrd_b _ _ _)) | (go_at_call 79; exact gw_call (rvsub_b _ _ _ _ _)) | (go_at_call 130; exact gw_call (rvlen_b _ _ _)) | (go_at_call 89; exact gw_call (radd_b _ _ _)) | (go_at_call 196; exact gw_call (rvlerp_b _ _ _ _ _ _)))))
    refine wpQuiet_nil ?_
    intro w1 hw1
    obtain ⟨q, rfl⟩ := hw1
    go_wp2_with fail
    refine post_named ?_
    intro Z hZ
    have kZ : blk Z (w.heap.size + 1) #[.int .i64 (mul (add (mul 205888 (mul R R)) (mul (add R R) (vlen (sub x1 x0) (sub y1 y0)))) D), .int .i64 (lerp x0 x1 32768), .int .i64 (lerp y0 y1 32768), .int .i64 (mul (mul (add (mul 205888 (mul R R)) (mul (add R R) (vlen (sub x1 x0) (sub y1 y0)))) D) (add (rdiv (mul R R) 2) (rdiv (mul (vlen (sub x1 x0) (sub y1 y0)) (vlen (sub x1 x0) (sub y1 y0))) 12)))] 49 := by rw [hZ]; first | exact bBkn | exact (by apply blk_of; (repeat (first  | with_reducible apply blk_drew | with_reducible apply blk_gw | with_reducible apply blk_alloc | with_reducible apply blk_set | ((with_reducible apply blk_other); focus omega))); (first | rfl | simp))
    have hbZ : Below w.heap.size w Z := by rw [hZ]; exact bBel
    clear hZ
    have okZ := blk_older kZ
    have ckZ_0 : _ = some _ := blk_cell kZ 0
    have ckZ_1 : _ = some _ := blk_cell kZ 1
    have ckZ_2 : _ = some _ := blk_cell kZ 2
    have ckZ_3 : _ = some _ := blk_cell kZ 3
    have fkZ_0 := blk_free kZ 0
    have fkZ_1 := blk_free kZ 1
    have fkZ_2 := blk_free kZ 2
    have fkZ_3 := blk_free kZ 3
    exact bodyPost_ret (v := .agg #[.int .i64 (mul (add (mul 205888 (mul R R)) (mul (add R R) (vlen (sub x1 x0) (sub y1 y0)))) D), .int .i64 (lerp x0 x1 32768), .int .i64 (lerp y0 y1 32768), .int .i64 (mul (mul (add (mul 205888 (mul R R)) (mul (add R R) (vlen (sub x1 x0) (sub y1 y0)))) D) (add (rdiv (mul R R) 2) (rdiv (mul (vlen (sub x1 x0) (sub y1 y0)) (vlen (sub x1 x0) (sub y1 y0))) 12)))]) (by simp [results, Tryz.results142, go_sem, ckZ_0, ckZ_1, ckZ_2, ckZ_3]) rfl ⟨rfl, hbZ⟩
  · rw [ofS_3 hv (by omega) (by omega) rfl]
    dsimp only
    have h8 := hlen.2.1
    have cA := fun w' h => rarea_b A cap ps hl w' h
    have cC := fun w' h => rcen_b A cap ps hl w' h
    have cP := fun w' h => rpin_b A cap ps (cenP ps).1 (cenP ps).2 (mul (areaP ps) D) h8 w' h
    clear hno hv hlen hK
    generalize (cenP ps).1 = cx at *
    generalize (cenP ps).2 = cy at *
    generalize areaP ps = AR at *
    generalize pin ps cx cy (mul AR D) = IN at *
    go_enter Tryz.func142, Tryz.ntmps142
    go_wp2_with (first | (go_at_call 62; refine Calls.mono (gw_at (cV _ (Pts.to hp bBel))) ?_; rintro e w1 ⟨rfl, q, rfl⟩) | (go_at_call 86; refine Calls.mono (gw_at (rmul_b _ _ _)) ?_; rintro e w1 ⟨rfl, q, rfl⟩) | (go_at_call 133; refine Calls.mono (gw_at (cA _ (Pts.to hp bBel))) ?_; rintro e w1 ⟨rfl, q, rfl⟩) | (go_at_call 197; refine Calls.mono (gw_at (cC _ (Pts.to hp bBel))) ?_; rintro e w1 ⟨rfl, q, rfl⟩))
    refine wp_region_gw_tail 8 (by kernel_rfl) (by kernel_rfl) ?_
    simp only [List.take_succ_cons, List.take_zero, List.drop_succ_cons, List.drop_zero]
    repeat (go_big_quiet_step (first | (go_at_call 198; exact gw_call (cP _ (Pts.to hp bBel)))))
    refine wpQuiet_nil ?_
    intro w1 hw1
    obtain ⟨q, rfl⟩ := hw1
    go_wp2_with fail
    refine post_named ?_
    intro Z hZ
    have kZ : blk Z (w.heap.size + 1) #[.int .i64 (mul AR D), .int .i64 (cx), .int .i64 (cy), .int .i64 (IN)] 49 := by rw [hZ]; first | exact bBkn | exact (by apply blk_of; (repeat (first  | with_reducible apply blk_drew | with_reducible apply blk_gw | with_reducible apply blk_alloc | with_reducible apply blk_set | ((with_reducible apply blk_other); focus omega))); (first | rfl | simp))
    have hbZ : Below w.heap.size w Z := by rw [hZ]; exact bBel
    clear hZ
    have okZ := blk_older kZ
    have ckZ_0 : _ = some _ := blk_cell kZ 0
    have ckZ_1 : _ = some _ := blk_cell kZ 1
    have ckZ_2 : _ = some _ := blk_cell kZ 2
    have ckZ_3 : _ = some _ := blk_cell kZ 3
    have fkZ_0 := blk_free kZ 0
    have fkZ_1 := blk_free kZ 1
    have fkZ_2 := blk_free kZ 2
    have fkZ_3 := blk_free kZ 3
    exact bodyPost_ret (v := .agg #[.int .i64 (mul AR D), .int .i64 (cx), .int .i64 (cy), .int .i64 (IN)]) (by simp [results, Tryz.results142, go_sem, ckZ_0, ckZ_1, ckZ_2, ckZ_3]) rfl ⟨rfl, hbZ⟩

end Go.Proofs.YtdmcdicphohlfaaGreat

set_option linter.unusedVariables false
namespace Go.Proofs.YtdmcdicphohlfaaGreat
open Go.RowKit Fx

def mdc (p : Md) : List Value := [.int .i64 p.m, .int .i64 p.x, .int .i64 p.y, .int .i64 p.i]
abbrev Mds (w : World) (A : Option Addr) (l : List Md) : Prop := Els w 4 (fun cs f => cs = mdc f) A l
theorem Mds.to {w w' : World} {A : Option Addr} {l : List Md} (h : Mds w A l) (hb : Below w.heap.size w w') : Mds w' A l := Els.to h (by decide) (fun _ _ h => h) hb
theorem mds_open {w : World} {A : Option Addr} {l : List Md} (h : Mds w A l) (h0 : 0 < l.length) : ∃ b off, A = some ⟨b, off, none⟩ ∧ ∀ i (h : i < l.length) w', Below w.heap.size w w' → w'.cell? ⟨b, off + i * 4, none⟩ = some (.int .i64 l[i].m) ∧ w'.cell? ⟨b, off + i * 4 + 1, none⟩ = some (.int .i64 l[i].x) ∧ w'.cell? ⟨b, off + i * 4 + 2, none⟩ = some (.int .i64 l[i].y) ∧ w'.cell? ⟨b, off + i * 4 + 3, none⟩ = some (.int .i64 l[i].i) := by
  rcases h with h | ⟨b, off, rfl, hc⟩
  · rw [h] at h0; simp at h0
  · refine ⟨b, off, rfl, fun i hi w' hb => ?_⟩
    obtain ⟨cs, _, k, rfl⟩ := hc i hi
    have k0 := k 0 (by decide)
    have hlt := World.block_lt_of_cell? w ⟨b, off + i * 4 + 0, none⟩ (show _ = some (Value.int .i64 l[i].m) from k0)
    exact ⟨(hb.cell (p := ⟨b, off + i * 4 + 0, none⟩) hlt).trans k0, (hb.cell (p := ⟨b, off + i * 4 + 1, none⟩) hlt).trans (k 1 (by decide)), (hb.cell (p := ⟨b, off + i * 4 + 2, none⟩) hlt).trans (k 2 (by decide)), (hb.cell (p := ⟨b, off + i * 4 + 3, none⟩) hlt).trans (k 3 (by decide))⟩

theorem fold_take {α : Type} (f : Int → α → Int) (s : Int) (l : List α) {k : Nat} (h : k < l.length) : (l.take (k + 1)).foldl f s = f ((l.take k).foldl f s) l[k] := by
  rw [List.take_add_one, List.getElem?_eq_getElem h, List.foldl_append]; rfl
theorem csum_in (l : List Md) : ∀ k : Nat, -536870911 * (k : Int) ≤ csum (l.take k) ∧ csum (l.take k) ≤ 536870911 * (k : Int)
  | 0 => by unfold csum; simp
  | k + 1 => by
    have ih := csum_in l k
    by_cases h : k < l.length
    · unfold csum at *
      rw [fold_take _ _ _ h]
      have h1 := sat_ge l[k].m
      have h2 := sat_le l[k].m
      omega
    · rw [List.take_of_length_le (by omega)]
      rw [List.take_of_length_le (by omega)] at ih
      omega
theorem cmx_in (l : List Md) : ∀ k : Nat, -288230375077969921 * (k : Int) ≤ cmx (l.take k) ∧ cmx (l.take k) ≤ 288230375077969921 * (k : Int)
  | 0 => by unfold cmx; simp
  | k + 1 => by
    have ih := cmx_in l k
    by_cases h : k < l.length
    · unfold cmx at *
      rw [fold_take _ _ _ h]
      have := satmul l[k].m l[k].x
      omega
    · rw [List.take_of_length_le (by omega)]
      rw [List.take_of_length_le (by omega)] at ih
      omega
theorem cmy_in (l : List Md) : ∀ k : Nat, -288230375077969921 * (k : Int) ≤ cmy (l.take k) ∧ cmy (l.take k) ≤ 288230375077969921 * (k : Int)
  | 0 => by unfold cmy; simp
  | k + 1 => by
    have ih := cmy_in l k
    by_cases h : k < l.length
    · unfold cmy at *
      rw [fold_take _ _ _ h]
      have := satmul l[k].m l[k].y
      omega
    · rw [List.take_of_length_le (by omega)]
      rw [List.take_of_length_le (by omega)] at ih
      omega

set_option maxRecDepth 100000 in
set_option maxHeartbeats 16000000 in
theorem rcomb_b (A : Option Addr) (cap : Nat) (l : List Md) (hl : l.length ≤ 4611686018427387904) (w : World) (ha : Mds w A l) : Calls Tryz.prog 143 #[.slice A l.length cap] w fun e w' => e = .returned (.agg #[.int .i64 (comb l).m, .int .i64 (comb l).x, .int .i64 (comb l).y, .int .i64 (comb l).i]) ∧ Below w.heap.size w w' := by
  by_cases h8 : 8 < l.length
  focus
    have e : comb l = Md.zero := if_pos (.inl h8)
    have i8 : (8 : Int) < (l.length : Int) := by omega
    rw [e]
    clear e h8
    go_enter Tryz.func143, Tryz.ntmps143
    go_wp2_with fail
    refine post_named ?_
    intro Z hZ
    have kZ : blk Z w.heap.size #[.int .i64 0, .int .i64 0, .int .i64 0, .int .i64 0] 49 := by rw [hZ]; exact bBkn
    have hbZ : Below w.heap.size w Z := by rw [hZ]; exact bBel
    clear hZ
    have okZ := blk_older kZ
    have ckZ_0 : _ = some _ := blk_cell kZ 0
    have ckZ_1 : _ = some _ := blk_cell kZ 1
    have ckZ_2 : _ = some _ := blk_cell kZ 2
    have ckZ_3 : _ = some _ := blk_cell kZ 3
    have fkZ_0 := blk_free kZ 0
    have fkZ_1 := blk_free kZ 1
    have fkZ_2 := blk_free kZ 2
    have fkZ_3 := blk_free kZ 3
    exact bodyPost_ret (v := .agg #[.int .i64 0, .int .i64 0, .int .i64 0, .int .i64 0]) (by simp [results, Tryz.results143, go_sem, ckZ_0, ckZ_1, ckZ_2, ckZ_3]) rfl ⟨rfl, hbZ⟩
  have i8 : ¬ (8 : Int) < (l.length : Int) := by omega
  obtain ⟨Z, hZ⟩ : ∃ Z, Hid (comb l = Z) := ⟨comb l, rfl⟩
  rw [hZ.out]
  have hneg : Hid ((∃ p ∈ l, p.m < 0) → Z = Md.zero) := fun h => by rw [← hZ.out]; exact if_pos (.inr h)
  have hpos : Hid ((¬ ∃ p ∈ l, p.m < 0) → Z = ⟨cmass l, ccx l, ccy l, cin (ccx l) (ccy l) l⟩) := fun h => by
    rw [← hZ.out]; exact if_neg (by rintro (g | g); exact h8 g; exact h g)
  have s1 := csum_in l
  have s2 := cmx_in l
  have s3 := cmy_in l
  have f0 : ∀ k (h : k < l.length), Hid (cmass (l.take (k + 1)) = add (cmass (l.take k)) (sat l[k].m)) := fun k h => fold_take _ _ _ h
  have f1 : ∀ k (h : k < l.length), Hid (csum (l.take (k + 1)) = csum (l.take k) + sat l[k].m) := fun k h => fold_take _ _ _ h
  have f2 : ∀ k (h : k < l.length), Hid (cmx (l.take (k + 1)) = cmx (l.take k) + sat l[k].m * sat l[k].x) := fun k h => fold_take _ _ _ h
  have f3 : ∀ k (h : k < l.length), Hid (cmy (l.take (k + 1)) = cmy (l.take k) + sat l[k].m * sat l[k].y) := fun k h => fold_take _ _ _ h
  clear hZ
  go_enter Tryz.func143, Tryz.ntmps143
  go_wp2_with fail
  go_loopw [4, 5, 6, 7] (fun m x y i wr => ∃ k : Nat, k ≤ l.length ∧ i = .int .i64 (k : Int) ∧ m = .int .i64 (csum (l.take k)) ∧ x = .int .i64 (cmx (l.take k)) ∧ y = .int .i64 (cmy (l.take k)) ∧ (∀ j (h : j < l.length), j < k → ¬ l[j].m < 0) ∧ blk wr w.heap.size #[.int .i64 0, .int .i64 0, .int .i64 0, .int .i64 0] 49 ∧ blk wr (w.heap.size + 1) #[.int .i64 (cmass (l.take k)), .int .i64 0, .int .i64 0, .int .i64 0] 49 ∧ Below w.heap.size w wr)
    (fun _ _ _ i _ => (l.length - intOf i).toNat)
  case atStart => exact ⟨0, by omega, rfl, rfl, rfl, rfl, by omega, bBkn, by show blk _ _ #[.int .i64 0, .int .i64 0, .int .i64 0, .int .i64 0] _; exact bBkn, bBel⟩
  case round =>
    obtain ⟨k, hk, rfl, rfl, rfl, rfl, hall, kR, kO, hbw⟩ := hrel
    have hsz := hbw.size
    have okR := blk_older kR
    have ckR_0 : _ = some _ := blk_cell kR 0
    have ckR_1 : _ = some _ := blk_cell kR 1
    have ckR_2 : _ = some _ := blk_cell kR 2
    have ckR_3 : _ = some _ := blk_cell kR 3
    have fkR_0 := blk_free kR 0
    have fkR_1 := blk_free kR 1
    have fkR_2 := blk_free kR 2
    have fkR_3 := blk_free kR 3
    have okO := blk_older kO
    have ckO_0 : _ = some _ := blk_cell kO 0
    have ckO_1 : _ = some _ := blk_cell kO 1
    have ckO_2 : _ = some _ := blk_cell kO 2
    have ckO_3 : _ = some _ := blk_cell kO 3
    have fkO_0 := blk_free kO 0
    have fkO_1 := blk_free kO 1
    have fkO_2 := blk_free kO 2
    have fkO_3 := blk_free kO 3
    by_cases hlt : k < l.length
    · have j0 : (0 : Int) ≤ (k : Int) := by omega
      have j1 : (k : Int) < (l.length : Int) := by omega
      obtain ⟨b2, off2, hA2, hc2⟩ := mds_open ha (by omega)
      subst hA2
      obtain ⟨d0, d1, d2, d3⟩ := hc2 k hlt _ hbw
      have hc3 := hc2 k hlt
      have od := older_of_cell d0
      have g0 := f0 k hlt
      have g1 := f1 k hlt
      have g2 := f2 k hlt
      have g3 := f3 k hlt
      have t1 := s1 (k + 1)
      have t2 := s2 (k + 1)
      have t3 := s3 (k + 1)
      have hmem : Hid (l[k].m < 0 → Z = Md.zero) := fun h => hneg.out ⟨_, List.getElem_mem hlt, h⟩
      have hnx : Hid (¬ l[k].m < 0 → ∀ j (h : j < l.length), j < k + 1 → ¬ l[j].m < 0) := fun h j hj hjk => by
        rcases (by omega : j < k ∨ j = k) with h4 | rfl
        · exact hall j hj h4
        · exact h
      clear f0 f1 f2 f3 s1 s2 s3 hc2 hall hneg hpos
      generalize l[k].m = M at *
      generalize l[k].x = X at *
      generalize l[k].y = Y at *
      generalize l[k].i = I at *
      by_cases hM : M < 0
      · have hz := hmem.out hM
        subst hz
        clear hnx hmem g0 g1 g2 g3 t1 t2 t3
        go_wp2_with fail
        refine post_named ?_
        intro Z hZ
        have kZ : blk Z w.heap.size #[.int .i64 0, .int .i64 0, .int .i64 0, .int .i64 0] 49 := by rw [hZ]; exact (by apply blk_of; (repeat (first | with_reducible exact kR | with_reducible apply blk_drew | with_reducible apply blk_gw | with_reducible apply blk_alloc | with_reducible apply blk_set | ((with_reducible apply blk_other); focus omega))); (first | rfl | simp))
        have hbZ : Below w.heap.size w Z := by rw [hZ]; exact bBel
        clear hZ
        have okZ := blk_older kZ
        have ckZ_0 : _ = some _ := blk_cell kZ 0
        have ckZ_1 : _ = some _ := blk_cell kZ 1
        have ckZ_2 : _ = some _ := blk_cell kZ 2
        have ckZ_3 : _ = some _ := blk_cell kZ 3
        have fkZ_0 := blk_free kZ 0
        have fkZ_1 := blk_free kZ 1
        have fkZ_2 := blk_free kZ 2
        have fkZ_3 := blk_free kZ 3
        exact bodyPost_ret (v := .agg #[.int .i64 0, .int .i64 0, .int .i64 0, .int .i64 0]) (by simp [results, Tryz.results143, go_sem, ckZ_0, ckZ_1, ckZ_2, ckZ_3]) rfl ⟨rfl, hbZ⟩
      · have hg := hnx.out hM
        have p2 := satmul M X
        have p3 := satmul M Y
        have u1 := g1.out
        have u2 := g2.out
        have u3 := g3.out
        have r1 : wrap64 (csum (l.take k) + sat M) = csum (l.take k) + sat M := by rw [← u1]; unfold wrap64; omega
        have r2 : wrap64 (sat M * sat X) = sat M * sat X := by unfold wrap64; omega
        have r3 : wrap64 (cmx (l.take k) + sat M * sat X) = cmx (l.take k) + sat M * sat X := by rw [← u2]; unfold wrap64; omega
        have r4 : wrap64 (sat M * sat Y) = sat M * sat Y := by unfold wrap64; omega
        have r5 : wrap64 (cmy (l.take k) + sat M * sat Y) = cmy (l.take k) + sat M * sat Y := by rw [← u3]; unfold wrap64; omega
        clear hnx hmem t1 t2 t3 p2 p3 u1 u2 u3
        generalize csum (l.take k) = S1 at *
        generalize cmx (l.take k) = S2 at *
        generalize cmy (l.take k) = S3 at *
        generalize cmass (l.take k) = S0 at *
        go_wp2_with (first | (go_at_call 158; refine Calls.mono (gw_at (rsat_b _ _)) ?_; rintro e w1 ⟨rfl, q, rfl⟩) | (go_at_call 89; refine Calls.mono (gw_at (radd_b _ _ _)) ?_; rintro e w1 ⟨rfl, q, rfl⟩) | (go_at_call 159; refine Calls.mono (gw_at (rrd_b _ _ _)) ?_; rintro e w1 ⟨rfl, q, rfl⟩) | (go_at_call 79; refine Calls.mono (gw_at (rvsub_b _ _ _ _ _)) ?_; rintro e w1 ⟨rfl, q, rfl⟩) | (go_at_call 199; refine Calls.mono (gw_at (rdot_b _ _ _ _ _)) ?_; rintro e w1 ⟨rfl, q, rfl⟩) | (go_at_call 86; refine Calls.mono (gw_at (rmul_b _ _ _)) ?_; rintro e w1 ⟨rfl, q, rfl⟩))
        refine ⟨⟨k + 1, by omega, by go_num, by first | (rw [g1.out]; done) | (rw [g1.out, r1]; done), by first | (rw [g2.out]; done) | (rw [g2.out, r3]; done), by first | (rw [g3.out]; done) | (rw [g3.out, r5]; done), (fun j h h' => by have := hg j h h'; omega), (by apply blk_of; (repeat (first | with_reducible exact kR | with_reducible apply blk_drew | with_reducible apply blk_gw | with_reducible apply blk_alloc | with_reducible apply blk_set | ((with_reducible apply blk_other); focus omega))); (first | rfl | simp)), by rw [g0.out]; exact (by apply blk_of; (repeat (first | with_reducible exact kO | with_reducible apply blk_drew | with_reducible apply blk_gw | with_reducible apply blk_alloc | with_reducible apply blk_set | ((with_reducible apply blk_other); focus omega))); (first | rfl | simp)), bBel⟩, by (try go_num); simp [intOf]; (try omega)⟩
    · obtain rfl : k = l.length := by omega
      have j1 : ¬ (l.length : Int) < (l.length : Int) := by omega
      have hz := hpos.out (fun ⟨p, hp, h⟩ => by obtain ⟨j, hj, rfl⟩ := List.mem_iff_getElem.1 hp; exact hall j hj hj h)
      subst hz
      rw [List.take_length] at *
      clear f0 f1 f2 f3 hneg hpos hall
      by_cases hm : 0 < csum l
      · have hcx : ccx l = rdiv (cmx l) (csum l) := if_pos hm
        have hcy : ccy l = rdiv (cmy l) (csum l) := if_pos hm
        go_upto_region 17 with (go_at_call 159; refine Calls.mono (gw_at (rrd_b _ _ _)) ?_; rintro e w1 ⟨rfl, q, rfl⟩)
        refine wp_named ?_
        intro X hX
        have kO2 : blk X (w.heap.size + 1) #[.int .i64 (cmass l), .int .i64 (ccx l), .int .i64 (ccy l), .int .i64 0] 49 := by rw [hX, hcx, hcy]; exact (by apply blk_of; (repeat (first | with_reducible exact kO | with_reducible apply blk_drew | with_reducible apply blk_gw | with_reducible apply blk_alloc | with_reducible apply blk_set | ((with_reducible apply blk_other); focus omega))); (first | rfl | simp))
        have kR2 : blk X w.heap.size #[.int .i64 0, .int .i64 0, .int .i64 0, .int .i64 0] 49 := by rw [hX]; exact (by apply blk_of; (repeat (first | with_reducible exact kR | with_reducible apply blk_drew | with_reducible apply blk_gw | with_reducible apply blk_alloc | with_reducible apply blk_set | ((with_reducible apply blk_other); focus omega))); (first | rfl | simp))
        have hbX : Below w.heap.size w X := by rw [hX]; exact bBel
        clear hX kO kR okR okO ckR_0 ckR_1 ckR_2 ckR_3 fkR_0 fkR_1 fkR_2 fkR_3 ckO_0 ckO_1 ckO_2 ckO_3 fkO_0 fkO_1 fkO_2 fkO_3 hbw hsz
        clear hcx hcy
        go_wp2_with fail
        go_loopw [9] (fun i wr => ∃ k : Nat, k ≤ l.length ∧ i = .int .i64 (k : Int) ∧ blk wr w.heap.size #[.int .i64 0, .int .i64 0, .int .i64 0, .int .i64 0] 49 ∧ blk wr (w.heap.size + 1) #[.int .i64 (cmass l), .int .i64 (ccx l), .int .i64 (ccy l), .int .i64 (cin (ccx l) (ccy l) (l.take k))] 49 ∧ Below w.heap.size w wr)
          (fun i _ => (l.length - intOf i).toNat)
        case atStart => exact ⟨0, by omega, rfl, kR2, kO2, hbX⟩
        case round =>
          obtain ⟨k, hk, rfl, kR3, kO3, hbw⟩ := hrel
          have hsz := hbw.size
          have okR3 := blk_older kR3
          have ckR3_0 : _ = some _ := blk_cell kR3 0
          have ckR3_1 : _ = some _ := blk_cell kR3 1
          have ckR3_2 : _ = some _ := blk_cell kR3 2
          have ckR3_3 : _ = some _ := blk_cell kR3 3
          have fkR3_0 := blk_free kR3 0
          have fkR3_1 := blk_free kR3 1
          have fkR3_2 := blk_free kR3 2
          have fkR3_3 := blk_free kR3 3
          have okO3 := blk_older kO3
          have ckO3_0 : _ = some _ := blk_cell kO3 0
          have ckO3_1 : _ = some _ := blk_cell kO3 1
          have ckO3_2 : _ = some _ := blk_cell kO3 2
          have ckO3_3 : _ = some _ := blk_cell kO3 3
          have fkO3_0 := blk_free kO3 0
          have fkO3_1 := blk_free kO3 1
          have fkO3_2 := blk_free kO3 2
          have fkO3_3 := blk_free kO3 3
          by_cases hlt : k < l.length
          · have j0 : (0 : Int) ≤ (k : Int) := by omega
            have j1 : (k : Int) < (l.length : Int) := by omega
            obtain ⟨b2, off2, hA2, hc2⟩ := mds_open ha (by omega)
            subst hA2
            obtain ⟨d0, d1, d2, d3⟩ := hc2 k hlt _ hbw
            have hc3 := hc2 k hlt
            have od := older_of_cell d0
            have hs : Hid (cin (ccx l) (ccy l) (l.take (k + 1)) = add (add (cin (ccx l) (ccy l) (l.take k)) l[k].i) (mul l[k].m (dot (sub l[k].x (ccx l)) (sub l[k].y (ccy l)) (sub l[k].x (ccx l)) (sub l[k].y (ccy l))))) := fold_take _ _ _ hlt
            clear hc2 s1 s2 s3
            generalize l[k].m = M at *
            generalize l[k].x = X0 at *
            generalize l[k].y = Y0 at *
            generalize l[k].i = I0 at *
            generalize cin (ccx l) (ccy l) (l.take k) = CI at *
            go_wp2_with fail
            apply wp_box1 9 111 8 10 #[.int .i64 0, .int .i64 0] 24 (by kernel_rfl) (by rfl) (by kernel_rfl) (by intro o ho a w; simp at ho; subst ho; simp [go_sem, ptr])
            · intro p0
              simp only [heads, ghost, List.take_succ_cons, List.take_zero, List.map_cons, List.map_nil]
              repeat (go_big_quiet_step ((first | (go_at_call 158; exact gw_call (rsat_b _ _)) | (go_at_call 89; exact gw_call (radd_b _ _ _)) | (go_at_call 159; exact gw_call (rrd_b _ _ _)) | (go_at_call 79; exact gw_call (rvsub_b _ _ _ _ _)) | (go_at_call 199; exact gw_call (rdot_b _ _ _ _ _)) | (go_at_call 86; exact gw_call (rmul_b _ _ _)))))
              exact wpQuiet_nil rfl
            · intro R bB p0 nB gB  kB hK
              simp only [List.drop_succ_cons, List.drop_zero, Act.put, ptr, List.setIfInBounds_toArray, List.set_cons_succ, List.set_cons_zero]
              have cB_0 : _ = some _ := blk_cell kB 0
              have cB_1 : _ = some _ := blk_cell kB 1
              have fB_0 := blk_free kB 0
              have fB_1 := blk_free kB 1
              have oB := blk_older kB
              go_wp2_with fail
              refine box_end1 gB hK ?_ ?_
              · exact bBel
              · exact (by repeat' (first | with_reducible assumption | with_reducible apply blk_gw | with_reducible apply blk_alloc | with_reducible apply blk_set | ((with_reducible apply blk_other); focus (first | omega | assumption))))
            intro bB p0 nB  kB
            have cB_0 : _ = some _ := blk_cell kB 0
            have cB_1 : _ = some _ := blk_cell kB 1
            have fB_0 := blk_free kB 0
            have fB_1 := blk_free kB 1
            have oB := blk_older kB
            go_upto_region 21 with fail
            refine wp_region_gw_tail 9 (by kernel_rfl) (by kernel_rfl) ?_
            simp only [List.take_succ_cons, List.take_zero, List.drop_succ_cons, List.drop_zero]
            repeat (go_big_quiet_step ((first | (go_at_call 158; exact gw_call (rsat_b _ _)) | (go_at_call 89; exact gw_call (radd_b _ _ _)) | (go_at_call 159; exact gw_call (rrd_b _ _ _)) | (go_at_call 79; exact gw_call (rvsub_b _ _ _ _ _)) | (go_at_call 199; exact gw_call (rdot_b _ _ _ _ _)) | (go_at_call 86; exact gw_call (rmul_b _ _ _)))))
            refine wpQuiet_nil ?_
            intro w1 hw1
            obtain ⟨q, rfl⟩ := hw1
            go_upto_region 22 with fail
            have hltO := blk_lt kO3
            have hgeB := newer_ge nB
            refine wp_named ?_
            intro X2 hX2
            have kO4 : blk X2 (w.heap.size + 1) #[.int .i64 (cmass l), .int .i64 (ccx l), .int .i64 (ccy l), .int .i64 (add CI I0)] 49 := by rw [hX2]; exact (by apply blk_of; (repeat (first | with_reducible exact kO3 | with_reducible apply blk_drew | with_reducible apply blk_gw | with_reducible apply blk_alloc | with_reducible apply blk_set | ((with_reducible apply blk_other); focus omega))); (first | rfl | simp))
            have kR4 : blk X2 w.heap.size #[.int .i64 0, .int .i64 0, .int .i64 0, .int .i64 0] 49 := by rw [hX2]; exact (by apply blk_of; (repeat (first | with_reducible exact kR3 | with_reducible apply blk_drew | with_reducible apply blk_gw | with_reducible apply blk_alloc | with_reducible apply blk_set | ((with_reducible apply blk_other); focus omega))); (first | rfl | simp))
            have kd : blk X2 bB #[.int .i64 (sub X0 (ccx l)), .int .i64 (sub Y0 (ccy l))] 24 := by
              rw [hX2]; refine blk_gw (blk_sm ?_ kB)
              repeat (first | exact sm_refl _ _ | refine sm_gw ?_ | refine sm_set ?_ (by omega))
            have hb2 : Below w.heap.size w X2 := by rw [hX2]; exact bBel
            clear hX2 kR3 kO3 kB cB_0 cB_1 fB_0 fB_1 oB okR3 okO3 ckR3_0 ckR3_1 ckR3_2 ckR3_3 fkR3_0 fkR3_1 fkR3_2 fkR3_3 ckO3_0 ckO3_1 ckO3_2 ckO3_3 fkO3_0 fkO3_1 fkO3_2 fkO3_3 d0 d1 d2 d3 od
            have hsz2 := hb2.size
            obtain ⟨d0, d1, d2, d3⟩ := hc3 _ hb2
            have od := older_of_cell d0
            have okO4 := blk_older kO4
            have ckO4_0 : _ = some _ := blk_cell kO4 0
            have ckO4_1 : _ = some _ := blk_cell kO4 1
            have ckO4_2 : _ = some _ := blk_cell kO4 2
            have ckO4_3 : _ = some _ := blk_cell kO4 3
            have fkO4_0 := blk_free kO4 0
            have fkO4_1 := blk_free kO4 1
            have fkO4_2 := blk_free kO4 2
            have fkO4_3 := blk_free kO4 3
            have okd := blk_older kd
            have ckd_0 : _ = some _ := blk_cell kd 0
            have ckd_1 : _ = some _ := blk_cell kd 1
            have fkd_0 := blk_free kd 0
            have fkd_1 := blk_free kd 1
            refine wp_region_gw_tail 13 (by kernel_rfl) (by kernel_rfl) ?_
            simp only [List.take_succ_cons, List.take_zero, List.drop_succ_cons, List.drop_zero]
            repeat (go_big_quiet_step ((first | (go_at_call 158; exact gw_call (rsat_b _ _)) | (go_at_call 89; exact gw_call (radd_b _ _ _)) | (go_at_call 159; exact gw_call (rrd_b _ _ _)) | (go_at_call 79; exact gw_call (rvsub_b _ _ _ _ _)) | (go_at_call 199; exact gw_call (rdot_b _ _ _ _ _)) | (go_at_call 86; exact gw_call (rmul_b _ _ _)))))
            refine wpQuiet_nil ?_
            intro w1 hw1
            obtain ⟨q, rfl⟩ := hw1
            go_wp2_with fail
            exact ⟨⟨k + 1, by omega, by go_num, (by apply blk_of; (repeat (first | with_reducible exact kR4 | with_reducible apply blk_drew | with_reducible apply blk_gw | with_reducible apply blk_alloc | with_reducible apply blk_set | ((with_reducible apply blk_other); focus omega))); (first | rfl | simp)), by rw [hs.out]; exact (by apply blk_of; (repeat (first | with_reducible exact kO4 | with_reducible apply blk_drew | with_reducible apply blk_gw | with_reducible apply blk_alloc | with_reducible apply blk_set | ((with_reducible apply blk_other); focus omega))); (first | rfl | simp)), bBel⟩, by (try go_num); simp [intOf]; (try omega)⟩
          · obtain rfl : k = l.length := by omega
            have j1 : ¬ (l.length : Int) < (l.length : Int) := by omega
            rw [List.take_length] at kO3 ckO3_3
            go_wp2_with fail
            refine post_named ?_
            intro Z hZ
            have kZ : blk Z w.heap.size #[.int .i64 (cmass l), .int .i64 (ccx l), .int .i64 (ccy l), .int .i64 (cin (ccx l) (ccy l) l)] 49 := by rw [hZ]; exact (by apply blk_of; (repeat (first | with_reducible exact kR3 | with_reducible apply blk_drew | with_reducible apply blk_gw | with_reducible apply blk_alloc | with_reducible apply blk_set | ((with_reducible apply blk_other); focus omega))); (first | rfl | simp))
            have hbZ : Below w.heap.size w Z := by rw [hZ]; exact bBel
            clear hZ
            have okZ := blk_older kZ
            have ckZ_0 : _ = some _ := blk_cell kZ 0
            have ckZ_1 : _ = some _ := blk_cell kZ 1
            have ckZ_2 : _ = some _ := blk_cell kZ 2
            have ckZ_3 : _ = some _ := blk_cell kZ 3
            have fkZ_0 := blk_free kZ 0
            have fkZ_1 := blk_free kZ 1
            have fkZ_2 := blk_free kZ 2
            have fkZ_3 := blk_free kZ 3
            exact bodyPost_ret (v := .agg #[.int .i64 (cmass l), .int .i64 (ccx l), .int .i64 (ccy l), .int .i64 (cin (ccx l) (ccy l) l)]) (by simp [results, Tryz.results143, go_sem, ckZ_0, ckZ_1, ckZ_2, ckZ_3]) rfl ⟨rfl, hbZ⟩
      · have hcx : ccx l = 0 := if_neg hm
        have hcy : ccy l = 0 := if_neg hm
        go_upto_region 17 with fail
        refine wp_named ?_
        intro X hX
        have kO2 : blk X (w.heap.size + 1) #[.int .i64 (cmass l), .int .i64 (ccx l), .int .i64 (ccy l), .int .i64 0] 49 := by rw [hX, hcx, hcy]; exact (by apply blk_of; (repeat (first | with_reducible exact kO | with_reducible apply blk_drew | with_reducible apply blk_gw | with_reducible apply blk_alloc | with_reducible apply blk_set | ((with_reducible apply blk_other); focus omega))); (first | rfl | simp))
        have kR2 : blk X w.heap.size #[.int .i64 0, .int .i64 0, .int .i64 0, .int .i64 0] 49 := by rw [hX]; exact (by apply blk_of; (repeat (first | with_reducible exact kR | with_reducible apply blk_drew | with_reducible apply blk_gw | with_reducible apply blk_alloc | with_reducible apply blk_set | ((with_reducible apply blk_other); focus omega))); (first | rfl | simp))
        have hbX : Below w.heap.size w X := by rw [hX]; exact bBel
        clear hX kO kR okR okO ckR_0 ckR_1 ckR_2 ckR_3 fkR_0 fkR_1 fkR_2 fkR_3 ckO_0 ckO_1 ckO_2 ckO_3 fkO_0 fkO_1 fkO_2 fkO_3 hbw hsz
        clear hcx hcy
        go_wp2_with fail
        go_loopw [9] (fun i wr => ∃ k : Nat, k ≤ l.length ∧ i = .int .i64 (k : Int) ∧ blk wr w.heap.size #[.int .i64 0, .int .i64 0, .int .i64 0, .int .i64 0] 49 ∧ blk wr (w.heap.size + 1) #[.int .i64 (cmass l), .int .i64 (ccx l), .int .i64 (ccy l), .int .i64 (cin (ccx l) (ccy l) (l.take k))] 49 ∧ Below w.heap.size w wr)
          (fun i _ => (l.length - intOf i).toNat)
        case atStart => exact ⟨0, by omega, rfl, kR2, kO2, hbX⟩
        case round =>
          obtain ⟨k, hk, rfl, kR3, kO3, hbw⟩ := hrel
          have hsz := hbw.size
          have okR3 := blk_older kR3
          have ckR3_0 : _ = some _ := blk_cell kR3 0
          have ckR3_1 : _ = some _ := blk_cell kR3 1
          have ckR3_2 : _ = some _ := blk_cell kR3 2
          have ckR3_3 : _ = some _ := blk_cell kR3 3
          have fkR3_0 := blk_free kR3 0
          have fkR3_1 := blk_free kR3 1
          have fkR3_2 := blk_free kR3 2
          have fkR3_3 := blk_free kR3 3
          have okO3 := blk_older kO3
          have ckO3_0 : _ = some _ := blk_cell kO3 0
          have ckO3_1 : _ = some _ := blk_cell kO3 1
          have ckO3_2 : _ = some _ := blk_cell kO3 2
          have ckO3_3 : _ = some _ := blk_cell kO3 3
          have fkO3_0 := blk_free kO3 0
          have fkO3_1 := blk_free kO3 1
          have fkO3_2 := blk_free kO3 2
          have fkO3_3 := blk_free kO3 3
          by_cases hlt : k < l.length
          · have j0 : (0 : Int) ≤ (k : Int) := by omega
            have j1 : (k : Int) < (l.length : Int) := by omega
            obtain ⟨b2, off2, hA2, hc2⟩ := mds_open ha (by omega)
            subst hA2
            obtain ⟨d0, d1, d2, d3⟩ := hc2 k hlt _ hbw
            have hc3 := hc2 k hlt
            have od := older_of_cell d0
            have hs : Hid (cin (ccx l) (ccy l) (l.take (k + 1)) = add (add (cin (ccx l) (ccy l) (l.take k)) l[k].i) (mul l[k].m (dot (sub l[k].x (ccx l)) (sub l[k].y (ccy l)) (sub l[k].x (ccx l)) (sub l[k].y (ccy l))))) := fold_take _ _ _ hlt
            clear hc2 s1 s2 s3
            generalize l[k].m = M at *
            generalize l[k].x = X0 at *
            generalize l[k].y = Y0 at *
            generalize l[k].i = I0 at *
            generalize cin (ccx l) (ccy l) (l.take k) = CI at *
            go_wp2_with fail
            apply wp_box1 9 111 8 10 #[.int .i64 0, .int .i64 0] 24 (by kernel_rfl) (by rfl) (by kernel_rfl) (by intro o ho a w; simp at ho; subst ho; simp [go_sem, ptr])
            · intro p0
              simp only [heads, ghost, List.take_succ_cons, List.take_zero, List.map_cons, List.map_nil]
              repeat (go_big_quiet_step ((first | (go_at_call 158; exact gw_call (rsat_b _ _)) | (go_at_call 89; exact gw_call (radd_b _ _ _)) | (go_at_call 159; exact gw_call (rrd_b _ _ _)) | (go_at_call 79; exact gw_call (rvsub_b _ _ _ _ _)) | (go_at_call 199; exact gw_call (rdot_b _ _ _ _ _)) | (go_at_call 86; exact gw_call (rmul_b _ _ _)))))
              exact wpQuiet_nil rfl
            · intro R bB p0 nB gB  kB hK
              simp only [List.drop_succ_cons, List.drop_zero, Act.put, ptr, List.setIfInBounds_toArray, List.set_cons_succ, List.set_cons_zero]
              have cB_0 : _ = some _ := blk_cell kB 0
              have cB_1 : _ = some _ := blk_cell kB 1
              have fB_0 := blk_free kB 0
              have fB_1 := blk_free kB 1
              have oB := blk_older kB
              go_wp2_with fail
              refine box_end1 gB hK ?_ ?_
              · exact bBel
              · exact (by repeat' (first | with_reducible assumption | with_reducible apply blk_gw | with_reducible apply blk_alloc | with_reducible apply blk_set | ((with_reducible apply blk_other); focus (first | omega | assumption))))
            intro bB p0 nB  kB
            have cB_0 : _ = some _ := blk_cell kB 0
            have cB_1 : _ = some _ := blk_cell kB 1
            have fB_0 := blk_free kB 0
            have fB_1 := blk_free kB 1
            have oB := blk_older kB
            go_upto_region 21 with fail
            refine wp_region_gw_tail 9 (by kernel_rfl) (by kernel_rfl) ?_
            simp only [List.take_succ_cons, List.take_zero, List.drop_succ_cons, List.drop_zero]
            repeat (go_big_quiet_step ((first | (go_at_call 158; exact gw_call (rsat_b _ _)) | (go_at_call 89; exact gw_call (radd_b _ _ _)) | (go_at_call 159; exact gw_call (rrd_b _ _ _)) | (go_at_call 79; exact gw_call (rvsub_b _ _ _ _ _)) | (go_at_call 199; exact gw_call (rdot_b _ _ _ _ _)) | (go_at_call 86; exact gw_call (rmul_b _ _ _)))))
            refine wpQuiet_nil ?_
            intro w1 hw1
            obtain ⟨q, rfl⟩ := hw1
            go_upto_region 22 with fail
            have hltO := blk_lt kO3
            have hgeB := newer_ge nB
            refine wp_named ?_
            intro X2 hX2
            have kO4 : blk X2 (w.heap.size + 1) #[.int .i64 (cmass l), .int .i64 (ccx l), .int .i64 (ccy l), .int .i64 (add CI I0)] 49 := by rw [hX2]; exact (by apply blk_of; (repeat (first | with_reducible exact kO3 | with_reducible apply blk_drew | with_reducible apply blk_gw | with_reducible apply blk_alloc | with_reducible apply blk_set | ((with_reducible apply blk_other); focus omega))); (first | rfl | simp))
            have kR4 : blk X2 w.heap.size #[.int .i64 0, .int .i64 0, .int .i64 0, .int .i64 0] 49 := by rw [hX2]; exact (by apply blk_of; (repeat (first | with_reducible exact kR3 | with_reducible apply blk_drew | with_reducible apply blk_gw | with_reducible apply blk_alloc | with_reducible apply blk_set | ((with_reducible apply blk_other); focus omega))); (first | rfl | simp))
            have kd : blk X2 bB #[.int .i64 (sub X0 (ccx l)), .int .i64 (sub Y0 (ccy l))] 24 := by
              rw [hX2]; refine blk_gw (blk_sm ?_ kB)
              repeat (first | exact sm_refl _ _ | refine sm_gw ?_ | refine sm_set ?_ (by omega))
            have hb2 : Below w.heap.size w X2 := by rw [hX2]; exact bBel
            clear hX2 kR3 kO3 kB cB_0 cB_1 fB_0 fB_1 oB okR3 okO3 ckR3_0 ckR3_1 ckR3_2 ckR3_3 fkR3_0 fkR3_1 fkR3_2 fkR3_3 ckO3_0 ckO3_1 ckO3_2 ckO3_3 fkO3_0 fkO3_1 fkO3_2 fkO3_3 d0 d1 d2 d3 od
            have hsz2 := hb2.size
            obtain ⟨d0, d1, d2, d3⟩ := hc3 _ hb2
            have od := older_of_cell d0
            have okO4 := blk_older kO4
            have ckO4_0 : _ = some _ := blk_cell kO4 0
            have ckO4_1 : _ = some _ := blk_cell kO4 1
            have ckO4_2 : _ = some _ := blk_cell kO4 2
            have ckO4_3 : _ = some _ := blk_cell kO4 3
            have fkO4_0 := blk_free kO4 0
            have fkO4_1 := blk_free kO4 1
            have fkO4_2 := blk_free kO4 2
            have fkO4_3 := blk_free kO4 3
            have okd := blk_older kd
            have ckd_0 : _ = some _ := blk_cell kd 0
            have ckd_1 : _ = some _ := blk_cell kd 1
            have fkd_0 := blk_free kd 0
            have fkd_1 := blk_free kd 1
            refine wp_region_gw_tail 13 (by kernel_rfl) (by kernel_rfl) ?_
            simp only [List.take_succ_cons, List.take_zero, List.drop_succ_cons, List.drop_zero]
            repeat (go_big_quiet_step ((first | (go_at_call 158; exact gw_call (rsat_b _ _)) | (go_at_call 89; exact gw_call (radd_b _ _ _)) | (go_at_call 159; exact gw_call (rrd_b _ _ _)) | (go_at_call 79; exact gw_call (rvsub_b _ _ _ _ _)) | (go_at_call 199; exact gw_call (rdot_b _ _ _ _ _)) | (go_at_call 86; exact gw_call (rmul_b _ _ _)))))
            refine wpQuiet_nil ?_
            intro w1 hw1
            obtain ⟨q, rfl⟩ := hw1
            go_wp2_with fail
            exact ⟨⟨k + 1, by omega, by go_num, (by apply blk_of; (repeat (first | with_reducible exact kR4 | with_reducible apply blk_drew | with_reducible apply blk_gw | with_reducible apply blk_alloc | with_reducible apply blk_set | ((with_reducible apply blk_other); focus omega))); (first | rfl | simp)), by rw [hs.out]; exact (by apply blk_of; (repeat (first | with_reducible exact kO4 | with_reducible apply blk_drew | with_reducible apply blk_gw | with_reducible apply blk_alloc | with_reducible apply blk_set | ((with_reducible apply blk_other); focus omega))); (first | rfl | simp)), bBel⟩, by (try go_num); simp [intOf]; (try omega)⟩
          · obtain rfl : k = l.length := by omega
            have j1 : ¬ (l.length : Int) < (l.length : Int) := by omega
            rw [List.take_length] at kO3 ckO3_3
            go_wp2_with fail
            refine post_named ?_
            intro Z hZ
            have kZ : blk Z w.heap.size #[.int .i64 (cmass l), .int .i64 (ccx l), .int .i64 (ccy l), .int .i64 (cin (ccx l) (ccy l) l)] 49 := by rw [hZ]; exact (by apply blk_of; (repeat (first | with_reducible exact kR3 | with_reducible apply blk_drew | with_reducible apply blk_gw | with_reducible apply blk_alloc | with_reducible apply blk_set | ((with_reducible apply blk_other); focus omega))); (first | rfl | simp))
            have hbZ : Below w.heap.size w Z := by rw [hZ]; exact bBel
            clear hZ
            have okZ := blk_older kZ
            have ckZ_0 : _ = some _ := blk_cell kZ 0
            have ckZ_1 : _ = some _ := blk_cell kZ 1
            have ckZ_2 : _ = some _ := blk_cell kZ 2
            have ckZ_3 : _ = some _ := blk_cell kZ 3
            have fkZ_0 := blk_free kZ 0
            have fkZ_1 := blk_free kZ 1
            have fkZ_2 := blk_free kZ 2
            have fkZ_3 := blk_free kZ 3
            exact bodyPost_ret (v := .agg #[.int .i64 (cmass l), .int .i64 (ccx l), .int .i64 (ccy l), .int .i64 (cin (ccx l) (ccy l) l)]) (by simp [results, Tryz.results143, go_sem, ckZ_0, ckZ_1, ckZ_2, ckZ_3]) rfl ⟨rfl, hbZ⟩

end Go.Proofs.YtdmcdicphohlfaaGreat

set_option linter.unusedVariables false
namespace Go.Proofs.YtdmcdicphohlfaaGreat
open Go.RowKit Fx

structure Fxr where
  K : Int
  R : Int
  A : Option Addr
  cap : Nat
  ps : List (Int × Int)
  D : Int
  F : Int
  E : Int
  sen : Bool
  cat : Int
  msk : Int
  grp : Int
def fxc (f : Fxr) : List Value := [.int .i64 f.K, .int .i64 f.R, .slice f.A f.ps.length f.cap, .int .i64 f.D, .int .i64 f.F, .int .i64 f.E, .bool f.sen, .int .i64 f.cat, .int .i64 f.msk, .int .i64 f.grp]
def fxQ (w : World) (cs : List Value) (f : Fxr) : Prop := cs = fxc f ∧ Pts w f.A f.ps ∧ (f.A = none → f.cap = 0) ∧ f.ps.length ≤ f.cap ∧ f.cap ≤ maxLen
abbrev Fxs (w : World) (A : Option Addr) (fs : List Fxr) : Prop := Els w 10 (fxQ w) A fs
theorem Fxs.to {w w' : World} {A : Option Addr} {fs : List Fxr} (h : Fxs w A fs) (hb : Below w.heap.size w w') : Fxs w' A fs :=
  Els.to h (by decide) (fun _ _ h => ⟨h.1, Pts.to h.2.1 hb, h.2.2⟩) hb
theorem fxs_open {w : World} {A : Option Addr} {fs : List Fxr} (h : Fxs w A fs) (h0 : 0 < fs.length) : ∃ b off, A = some ⟨b, off, none⟩ ∧ ∀ i (h : i < fs.length), Pts w fs[i].A fs[i].ps ∧ ∀ w', Below w.heap.size w w' → w'.cell? ⟨b, off + i * 10, none⟩ = some (.int .i64 fs[i].K) ∧ w'.cell? ⟨b, off + i * 10 + 1, none⟩ = some (.int .i64 fs[i].R) ∧ w'.cell? ⟨b, off + i * 10 + 2, none⟩ = some (.slice fs[i].A fs[i].ps.length fs[i].cap) ∧ w'.cell? ⟨b, off + i * 10 + 3, none⟩ = some (.int .i64 fs[i].D) ∧ w'.cell? ⟨b, off + i * 10 + 6, none⟩ = some (.bool fs[i].sen) := by
  rcases h with h | ⟨b, off, rfl, hc⟩
  · rw [h] at h0; simp at h0
  · refine ⟨b, off, rfl, fun i hi => ?_⟩
    obtain ⟨cs, _, k, rfl, hp, _⟩ := hc i hi
    refine ⟨hp, fun w' hb => ?_⟩
    have k0 := k 0 (by decide)
    have hlt := World.block_lt_of_cell? w ⟨b, off + i * 10 + 0, none⟩ (show _ = some (Value.int .i64 fs[i].K) from k0)
    exact ⟨(hb.cell (p := ⟨b, off + i * 10 + 0, none⟩) hlt).trans k0, (hb.cell (p := ⟨b, off + i * 10 + 1, none⟩) hlt).trans (k 1 (by decide)), (hb.cell (p := ⟨b, off + i * 10 + 2, none⟩) hlt).trans (k 2 (by decide)), (hb.cell (p := ⟨b, off + i * 10 + 3, none⟩) hlt).trans (k 3 (by decide)), (hb.cell (p := ⟨b, off + i * 10 + 6, none⟩) hlt).trans (k 6 (by decide))⟩

def prt (fs : List Fxr) : List Md := (fs.filter fun f => !f.sen).map fun f => ofS f.K f.R f.ps f.D
def ofF (fs : List Fxr) : Md := if 4 < fs.length then Md.zero else comb (prt fs)
theorem prt_take {fs : List Fxr} {k : Nat} (h : k < fs.length) : prt (fs.take (k + 1)) = if fs[k].sen then prt (fs.take k) else prt (fs.take k) ++ [ofS fs[k].K fs[k].R fs[k].ps fs[k].D] := by
  unfold prt
  rw [List.take_add_one, List.getElem?_eq_getElem h, List.filter_append, List.map_append]
  cases hs : fs[k].sen <;> simp [hs]
theorem prt_len (fs : List Fxr) (k : Nat) : (prt (fs.take k)).length ≤ k := by
  unfold prt
  have h1 := List.length_filter_le (fun f : Fxr => !f.sen) (fs.take k)
  rw [List.length_map]
  have h2 := List.length_take_le k fs
  omega
theorem info_md : (Tryz.prog.info? 49).map (fun i => (i.zero, i.size, i.bytes)) = some (some (.agg #[.int .i64 0, .int .i64 0, .int .i64 0, .int .i64 0]), 4, 32) := by kernel_rfl

set_option maxRecDepth 100000 in
set_option maxHeartbeats 16000000 in
theorem roff_b (A : Option Addr) (cap : Nat) (fs : List Fxr) (hl : fs.length ≤ 1000000) (hv : ∀ f ∈ fs, f.ps.length ≤ 1000000) (w : World) (ha : Fxs w A fs) : Calls Tryz.prog 69 #[.slice A fs.length cap] w fun e w' => e = .returned (.agg #[.int .i64 (ofF fs).m, .int .i64 (ofF fs).x, .int .i64 (ofF fs).y, .int .i64 (ofF fs).i]) ∧ Below w.heap.size w w' := by
  obtain ⟨i0, hi, hz0, hz1, hz2⟩ := info_parts info_md
  by_cases h4 : 4 < fs.length
  focus
    have e : ofF fs = Md.zero := if_pos h4
    have i4 : (4 : Int) < (fs.length : Int) := by omega
    rw [e]
    clear e h4
    go_enter Tryz.func69, Tryz.ntmps69
    go_wp2_with fail
    refine post_named ?_
    intro Z hZ
    have kZ : blk Z w.heap.size #[.int .i64 0, .int .i64 0, .int .i64 0, .int .i64 0] 49 := by rw [hZ]; exact bBkn
    have hbZ : Below w.heap.size w Z := by rw [hZ]; exact bBel
    clear hZ
    have okZ := blk_older kZ
    have ckZ_0 : _ = some _ := blk_cell kZ 0
    have ckZ_1 : _ = some _ := blk_cell kZ 1
    have ckZ_2 : _ = some _ := blk_cell kZ 2
    have ckZ_3 : _ = some _ := blk_cell kZ 3
    have fkZ_0 := blk_free kZ 0
    have fkZ_1 := blk_free kZ 1
    have fkZ_2 := blk_free kZ 2
    have fkZ_3 := blk_free kZ 3
    exact bodyPost_ret (v := .agg #[.int .i64 0, .int .i64 0, .int .i64 0, .int .i64 0]) (by simp [results, Tryz.results69, go_sem, ckZ_0, ckZ_1, ckZ_2, ckZ_3]) rfl ⟨rfl, hbZ⟩
  have i4 : ¬ (4 : Int) < (fs.length : Int) := by omega
  have e : ofF fs = comb (prt fs) := if_neg h4
  rw [e]
  have cC := fun (A1 : Option Addr) (c1 : Nat) w' h => rcomb_b A1 c1 (prt fs) (by have := prt_len fs fs.length; rw [List.take_length] at this; omega) w' h
  have hpt : ∀ k (h : k < fs.length), Hid (prt (fs.take (k + 1)) = if fs[k].sen then prt (fs.take k) else prt (fs.take k) ++ [ofS fs[k].K fs[k].R fs[k].ps fs[k].D]) := fun k h => prt_take h
  have hpl := prt_len fs
  clear e
  go_enter Tryz.func69, Tryz.ntmps69
  go_wp2_with fail
  refine wp_named ?_
  intro W hW
  have kR : blk W w.heap.size #[.int .i64 0, .int .i64 0, .int .i64 0, .int .i64 0] 49 := by rw [hW]; exact bBkn
  have hbW : Below w.heap.size w W := by rw [hW]; exact bBel
  clear hW
  have hszW := hbW.size
  have hF : Fxs W A fs := Fxs.to ha hbW
  go_loopw [3, 4] (fun o i wr => ∃ (k n : Nat), k ≤ fs.length ∧ i = .int .i64 (k : Int) ∧ wr.ownsRow W.heap.size 49 4 o n ((prt (fs.take k)).flatMap mdc) ∧ n ≤ k ∧ Below W.heap.size W wr)
    (fun _ i _ => (fs.length - intOf i).toNat)
  case atStart => exact ⟨0, 0, by omega, rfl, World.ownsRow_nil _ _ _ 4, by omega, Below.refl _ _⟩
  case round =>
    obtain ⟨k, n, hk, rfl, hown, hnk, hbR⟩ := hrel
    have hszR := hbR.size
    have hbWR : Below w.heap.size w wr := Below.trans hbW (hbR.mono hszW)
    have kR1 := blk_to kR hbR
    have okR1 := blk_older kR1
    have ckR1_0 : _ = some _ := blk_cell kR1 0
    have ckR1_1 : _ = some _ := blk_cell kR1 1
    have ckR1_2 : _ = some _ := blk_cell kR1 2
    have ckR1_3 : _ = some _ := blk_cell kR1 3
    have fkR1_0 := blk_free kR1 0
    have fkR1_1 := blk_free kR1 1
    have fkR1_2 := blk_free kR1 2
    have fkR1_3 := blk_free kR1 3
    by_cases hlt : k < fs.length
    · have j0 : (0 : Int) ≤ (k : Int) := by omega
      have j1 : (k : Int) < (fs.length : Int) := by omega
      obtain ⟨b2, off2, hA2, hc2⟩ := fxs_open hF (by omega)
      subst hA2
      obtain ⟨hP, hc3⟩ := hc2 k hlt
      obtain ⟨d0, d1, d2, d3, d6⟩ := hc3 _ hbR
      have od := older_of_cell d0
      have hs := hpt k hlt
      have hpk := hpl (k + 1)
      have hvk := hv _ (List.getElem_mem hlt)
      clear hc2 hc3 hpt hv cC
      generalize fs[k].K = K at *
      generalize fs[k].R = R at *
      generalize fs[k].A = SA at *
      generalize fs[k].cap = scap at *
      generalize fs[k].ps = ps at *
      generalize fs[k].D = D at *
      generalize fs[k].sen = sen at *
      have cO := fun w' h => rofs_b K R SA scap ps D (by omega) w' h
      generalize ofS K R ps D = P at *
      cases sen
      · have hs2 := hs.out
        rw [if_neg (by decide)] at hs2
        have hs3 : Hid _ := hs2
        clear hs hs2
        go_wp2_with fail
        refine wp_mix 13 [0, 0, 0, 6, 14, 30, 0, 0, 192, 448, 960, 2046, 4094, 8191, 16383] [] [0, 1, 2, 3, 4, 5, 6, 7, 8, 9, 10, 11, 12] (by kernel_rfl) (by kernel_rfl) ?_
        repeat (first | (refine mix_skip (by rfl) (by rfl) (by rfl) (by rfl) ?_) | (refine mix_early (by rfl) (by rfl) (by rfl) ?_; go_big_quiet_step (fail); with_reducible refine wpQuiet_nil ?_) | (refine mix_late (by rfl) (by rfl) (by rfl) ?_; go_big_quiet_step (fail); with_reducible refine wpQuiet_nil ?_) | (refine mix_call (by rfl) (by rfl) (by rfl) ?_; intro pM Qs hQs; go_wp2_with (go_at_call 142; refine Calls.mono (gw_at (cO _ (Pts.to hP bBel))) ?_; rintro e w1 ⟨rfl, q, rfl⟩); refine hQs _ _ bBel ?_))
        refine mix_make #[.int .i64 P.m, .int .i64 P.x, .int .i64 P.y, .int .i64 P.i] 49 (some 1) (by rfl) (by rfl) (by rfl) (by rfl) (fun w => by simp [go_sem, mval]) ?_
        intro b5 wb hbb kb hS
        obtain ⟨qb, rfl⟩ := gw_of_below hbb
        clear hbb hS
        simp only [mval]
        refine mix_end ?_
        intro pE
        simp only [List.drop_succ_cons, List.drop_zero]
        go_wp2_with (at_builtin; refine wpList_appM rfl _ _ 146 rfl W.heap.size 49 i0 (.agg #[.int .i64 0, .int .i64 0, .int .i64 0, .int .i64 0]) 4 32 Tryz.underlying146 hi hz0 hz1 hz2 rfl (by decide) _ _ _ rfl (owns_below hown bBel) _ (mdc P) 49 rfl rfl (by show blk _ _ #[.int .i64 P.m, .int .i64 P.x, .int .i64 P.y, .int .i64 P.i] _; exact (by apply blk_of; (repeat (first | with_reducible exact kb | with_reducible apply blk_drew | with_reducible apply blk_gw | with_reducible apply blk_alloc | with_reducible apply blk_set | ((with_reducible apply blk_other); focus omega))); (first | rfl | simp))) (fun u hu => by simp [mdc] at hu; rcases hu with rfl | rfl | rfl | rfl <;> rfl) (by unfold maxLen; omega) (by omega) (by first | (simp; omega) | omega) ?_; intro v' w2 hown2 hb2)
        exact ⟨⟨k + 1, n + 1, by omega, by go_num, by rw [hs3.out, List.flatMap_append]; simpa using hown2, by omega, Below.trans hbR (Below.trans bBel hb2)⟩, by (try go_num); simp [intOf]; (try omega)⟩
      · have hs2 := hs.out
        rw [if_pos (by rfl)] at hs2
        have hs3 : Hid _ := hs2
        clear hs hs2
        go_wp2_with fail
        exact ⟨⟨k + 1, n, by omega, by go_num, by rw [hs3.out]; exact hown, by omega, hbR⟩, by (try go_num); simp [intOf]; (try omega)⟩
    · obtain rfl : k = fs.length := by omega
      have j1 : ¬ (fs.length : Int) < (fs.length : Int) := by omega
      rw [List.take_length] at hown
      obtain ⟨A5, c5, rfl, rfl, hle5, hmx5, hP5, hnil5⟩ := owns_els (c := mdc) (sz := 4) (fun f => rfl) (by decide) hown
      clear hpt hv hown hpl
      go_wp2_with (go_at_call 143; refine Calls.mono (gw_at (cC _ _ _ (Mds.to hP5 bBel))) ?_; rintro e w1 ⟨rfl, q, rfl⟩)
      refine post_named ?_
      intro Z hZ
      have kZ : blk Z w.heap.size #[.int .i64 (comb (prt fs)).m, .int .i64 (comb (prt fs)).x, .int .i64 (comb (prt fs)).y, .int .i64 (comb (prt fs)).i] 49 := by rw [hZ]; exact (by apply blk_of; (repeat (first | with_reducible exact kR1 | with_reducible apply blk_drew | with_reducible apply blk_gw | with_reducible apply blk_alloc | with_reducible apply blk_set | ((with_reducible apply blk_other); focus omega))); (first | rfl | simp))
      have hbZ : Below w.heap.size w Z := by rw [hZ]; exact bBel
      clear hZ
      have okZ := blk_older kZ
      have ckZ_0 : _ = some _ := blk_cell kZ 0
      have ckZ_1 : _ = some _ := blk_cell kZ 1
      have ckZ_2 : _ = some _ := blk_cell kZ 2
      have ckZ_3 : _ = some _ := blk_cell kZ 3
      have fkZ_0 := blk_free kZ 0
      have fkZ_1 := blk_free kZ 1
      have fkZ_2 := blk_free kZ 2
      have fkZ_3 := blk_free kZ 3
      exact bodyPost_ret (v := .agg #[.int .i64 (comb (prt fs)).m, .int .i64 (comb (prt fs)).x, .int .i64 (comb (prt fs)).y, .int .i64 (comb (prt fs)).i]) (by simp [results, Tryz.results69, go_sem, ckZ_0, ckZ_1, ckZ_2, ckZ_3]) rfl ⟨rfl, hbZ⟩

end Go.Proofs.YtdmcdicphohlfaaGreat
