/- Package massdata, the landed code: Inverse, ofCircle, ofCapsule, ofPolygon, polygonGyration, OfShape. -/
import Derived.Test.YtelmmjejgolefaaCoA
import Derived.Test.YtelmmjejgolefaaCoD
set_option linter.unusedVariables false
namespace Go.Proofs.Ytelmmjejgolefaa
open Go.RowKit Fx

theorem yinv_b (M x y I k : Int) (f : Bool) (w : World) : Calls Try.prog 15 #[.agg #[.int .i64 M, .int .i64 x, .int .i64 y, .int .i64 I], .int .i64 k, .bool f] w fun e w' => e = .returned (.tuple #[.int .i64 (invM M k), .int .i64 (invI I k f)]) ∧ Below w.heap.size w w' := by
  by_cases hk : k = 3
  rotate_left
  · have e1 : invM M k = 0 := if_pos hk
    have e2 : invI I k f = 0 := if_pos hk
    rw [e1, e2]
    have b1 : (k != 3) = true := by rw [bne_iff_ne]; exact hk
    clear hk e1 e2
    go_enter Try.func15, Try.ntmps15
    go_wp2_with (first | (go_at_call 42; refine Calls.mono (gw_at (div_b _ _ _)) ?_; rintro e w1 ⟨rfl, q, rfl⟩))
    exact bodyPost_ret (v := .tuple #[.int .i64 0, .int .i64 0]) (by simp [results, Try.results15, go_sem]) rfl ⟨rfl, (by repeat (first | with_reducible exact Below.refl _ _ | with_reducible assumption | refine bgw ?_ (by first | (simp; done) | (simp; omega) | omega) _ | refine Below.setCell ?_ (by first | exact Nat.le_of_not_lt (by assumption) | (simp; done) | (simp; omega) | omega) _ | refine Below.alloc ?_ (by first | (simp; done) | (simp; omega) | omega) _ | refine Below.drew ?_))⟩
  subst hk
  have e1 : invM M 3 = if 1 ≤ M then quo 65536 M else 65536 := if_neg (by decide)
  have e2 : invI I 3 f = if f = false ∧ 1 ≤ I then quo 65536 I else 0 := if_neg (by decide)
  rw [e1, e2]
  clear e1 e2
  by_cases hM : 1 ≤ M
  · rw [if_pos hM]
    by_cases hI : 1 ≤ I
    · cases f
      · rw [if_pos ⟨rfl, hI⟩]
        go_enter Try.func15, Try.ntmps15
        go_wp2_with (first | (go_at_call 42; refine Calls.mono (gw_at (div_b _ _ _)) ?_; rintro e w1 ⟨rfl, q, rfl⟩))
        exact bodyPost_ret (v := .tuple #[.int .i64 (quo 65536 M), .int .i64 (quo 65536 I)]) (by simp [results, Try.results15, go_sem]) rfl ⟨rfl, (by repeat (first | with_reducible exact Below.refl _ _ | with_reducible assumption | refine bgw ?_ (by first | (simp; done) | (simp; omega) | omega) _ | refine Below.setCell ?_ (by first | exact Nat.le_of_not_lt (by assumption) | (simp; done) | (simp; omega) | omega) _ | refine Below.alloc ?_ (by first | (simp; done) | (simp; omega) | omega) _ | refine Below.drew ?_))⟩
      · rw [if_neg (fun h => by cases h.1)]
        go_enter Try.func15, Try.ntmps15
        go_wp2_with (first | (go_at_call 42; refine Calls.mono (gw_at (div_b _ _ _)) ?_; rintro e w1 ⟨rfl, q, rfl⟩))
        exact bodyPost_ret (v := .tuple #[.int .i64 (quo 65536 M), .int .i64 (0)]) (by simp [results, Try.results15, go_sem]) rfl ⟨rfl, (by repeat (first | with_reducible exact Below.refl _ _ | with_reducible assumption | refine bgw ?_ (by first | (simp; done) | (simp; omega) | omega) _ | refine Below.setCell ?_ (by first | exact Nat.le_of_not_lt (by assumption) | (simp; done) | (simp; omega) | omega) _ | refine Below.alloc ?_ (by first | (simp; done) | (simp; omega) | omega) _ | refine Below.drew ?_))⟩
    · cases f
      · rw [if_neg (fun h => hI h.2)]
        go_enter Try.func15, Try.ntmps15
        go_wp2_with (first | (go_at_call 42; refine Calls.mono (gw_at (div_b _ _ _)) ?_; rintro e w1 ⟨rfl, q, rfl⟩))
        exact bodyPost_ret (v := .tuple #[.int .i64 (quo 65536 M), .int .i64 (0)]) (by simp [results, Try.results15, go_sem]) rfl ⟨rfl, (by repeat (first | with_reducible exact Below.refl _ _ | with_reducible assumption | refine bgw ?_ (by first | (simp; done) | (simp; omega) | omega) _ | refine Below.setCell ?_ (by first | exact Nat.le_of_not_lt (by assumption) | (simp; done) | (simp; omega) | omega) _ | refine Below.alloc ?_ (by first | (simp; done) | (simp; omega) | omega) _ | refine Below.drew ?_))⟩
      · rw [if_neg (fun h => by cases h.1)]
        go_enter Try.func15, Try.ntmps15
        go_wp2_with (first | (go_at_call 42; refine Calls.mono (gw_at (div_b _ _ _)) ?_; rintro e w1 ⟨rfl, q, rfl⟩))
        exact bodyPost_ret (v := .tuple #[.int .i64 (quo 65536 M), .int .i64 (0)]) (by simp [results, Try.results15, go_sem]) rfl ⟨rfl, (by repeat (first | with_reducible exact Below.refl _ _ | with_reducible assumption | refine bgw ?_ (by first | (simp; done) | (simp; omega) | omega) _ | refine Below.setCell ?_ (by first | exact Nat.le_of_not_lt (by assumption) | (simp; done) | (simp; omega) | omega) _ | refine Below.alloc ?_ (by first | (simp; done) | (simp; omega) | omega) _ | refine Below.drew ?_))⟩
  · rw [if_neg hM]
    by_cases hI : 1 ≤ I
    · cases f
      · rw [if_pos ⟨rfl, hI⟩]
        go_enter Try.func15, Try.ntmps15
        go_wp2_with (first | (go_at_call 42; refine Calls.mono (gw_at (div_b _ _ _)) ?_; rintro e w1 ⟨rfl, q, rfl⟩))
        exact bodyPost_ret (v := .tuple #[.int .i64 (65536), .int .i64 (quo 65536 I)]) (by simp [results, Try.results15, go_sem]) rfl ⟨rfl, (by repeat (first | with_reducible exact Below.refl _ _ | with_reducible assumption | refine bgw ?_ (by first | (simp; done) | (simp; omega) | omega) _ | refine Below.setCell ?_ (by first | exact Nat.le_of_not_lt (by assumption) | (simp; done) | (simp; omega) | omega) _ | refine Below.alloc ?_ (by first | (simp; done) | (simp; omega) | omega) _ | refine Below.drew ?_))⟩
      · rw [if_neg (fun h => by cases h.1)]
        go_enter Try.func15, Try.ntmps15
        go_wp2_with (first | (go_at_call 42; refine Calls.mono (gw_at (div_b _ _ _)) ?_; rintro e w1 ⟨rfl, q, rfl⟩))
        exact bodyPost_ret (v := .tuple #[.int .i64 (65536), .int .i64 (0)]) (by simp [results, Try.results15, go_sem]) rfl ⟨rfl, (by repeat (first | with_reducible exact Below.refl _ _ | with_reducible assumption | refine bgw ?_ (by first | (simp; done) | (simp; omega) | omega) _ | refine Below.setCell ?_ (by first | exact Nat.le_of_not_lt (by assumption) | (simp; done) | (simp; omega) | omega) _ | refine Below.alloc ?_ (by first | (simp; done) | (simp; omega) | omega) _ | refine Below.drew ?_))⟩
    · cases f
      · rw [if_neg (fun h => hI h.2)]
        go_enter Try.func15, Try.ntmps15
        go_wp2_with (first | (go_at_call 42; refine Calls.mono (gw_at (div_b _ _ _)) ?_; rintro e w1 ⟨rfl, q, rfl⟩))
        exact bodyPost_ret (v := .tuple #[.int .i64 (65536), .int .i64 (0)]) (by simp [results, Try.results15, go_sem]) rfl ⟨rfl, (by repeat (first | with_reducible exact Below.refl _ _ | with_reducible assumption | refine bgw ?_ (by first | (simp; done) | (simp; omega) | omega) _ | refine Below.setCell ?_ (by first | exact Nat.le_of_not_lt (by assumption) | (simp; done) | (simp; omega) | omega) _ | refine Below.alloc ?_ (by first | (simp; done) | (simp; omega) | omega) _ | refine Below.drew ?_))⟩
      · rw [if_neg (fun h => by cases h.1)]
        go_enter Try.func15, Try.ntmps15
        go_wp2_with (first | (go_at_call 42; refine Calls.mono (gw_at (div_b _ _ _)) ?_; rintro e w1 ⟨rfl, q, rfl⟩))
        exact bodyPost_ret (v := .tuple #[.int .i64 (65536), .int .i64 (0)]) (by simp [results, Try.results15, go_sem]) rfl ⟨rfl, (by repeat (first | with_reducible exact Below.refl _ _ | with_reducible assumption | refine bgw ?_ (by first | (simp; done) | (simp; omega) | omega) _ | refine Below.setCell ?_ (by first | exact Nat.le_of_not_lt (by assumption) | (simp; done) | (simp; omega) | omega) _ | refine Below.alloc ?_ (by first | (simp; done) | (simp; omega) | omega) _ | refine Below.drew ?_))⟩

theorem ycir_b (K R : Int) (A : Option Addr) (cap : Nat) (ps : List (Int × Int)) (D : Int) (h1l : 0 < ps.length) (hl : ps.length ≤ 4611686018427387904) (w : World) (hp : Pts w A ps) : Calls Try.prog 20 #[.agg #[.int .i64 K, .int .i64 R, .slice A ps.length cap], .int .i64 D] w fun e w' => e = .returned (.agg #[.int .i64 (mul (disk R) D), .int .i64 (hp' ps 0).1, .int .i64 (hp' ps 0).2, .int .i64 (mul (mul (disk R) D) (rdiv (mul R R) 2))]) ∧ Below w.heap.size w w' := by
  unfold disk
  rw [hp_get h1l]
  obtain ⟨b1, off1, hA1, hc1⟩ := pts_open0 hp h1l
  subst hA1
  obtain ⟨d0, d1⟩ := hc1 0 h1l
  simp only [Nat.zero_mul, Nat.add_zero] at d0 d1
  have o1 := older_of_cell d0
  have j0 : (0 : Int) < (ps.length : Int) := by omega
  clear hc1
  obtain ⟨x0, hx0⟩ : ∃ x, Hid (ps[0].1 = x) := ⟨ps[0].1, rfl⟩
  obtain ⟨y0, hy0⟩ : ∃ y, Hid (ps[0].2 = y) := ⟨ps[0].2, rfl⟩
  rw [hx0.out, hy0.out]
  rw [hx0.out] at d0
  rw [hy0.out] at d1
  clear hx0 hy0
  go_enter Try.func20, Try.ntmps20
  go_wp2_with (first | (go_at_call 38; refine Calls.mono (gw_at (mul_b _ _ _)) ?_; rintro e w1 ⟨rfl, q, rfl⟩) | (go_at_call 48; refine Calls.mono (gw_at (rd_b _ _ _)) ?_; rintro e w1 ⟨rfl, q, rfl⟩))
  refine wp_region_gw_tail 10 (by kernel_rfl) (by kernel_rfl) ?_
  simp only [List.take_succ_cons, List.take_zero, List.drop_succ_cons, List.drop_zero]
  repeat (go_big_quiet_step ((first | (go_at_call 38; exact gw_call (mul_b _ _ _)) | (go_at_call 48; exact gw_call (rd_b _ _ _)))))
  refine wpQuiet_nil ?_
  intro w1 hw1
  obtain ⟨q, rfl⟩ := hw1
  go_wp2_with fail
  refine post_named ?_
  intro Z hZ
  have kZ : blk Z (w.heap.size + 1) #[.int .i64 (mul (mul 205888 (mul R R)) D), .int .i64 x0, .int .i64 y0, .int .i64 (mul (mul (mul 205888 (mul R R)) D) (rdiv (mul R R) 2))] 30 := by rw [hZ]; first | exact (by repeat (first | with_reducible exact blk_new _ _ _ | ((with_reducible refine blk_at ?_); (simp; done)) | with_reducible apply blk_alloc | with_reducible apply blk_gw | with_reducible apply blk_drew)) | exact (by apply blk_of; (repeat (first  | with_reducible apply blk_drew | with_reducible apply blk_gw | with_reducible apply blk_alloc | with_reducible apply blk_set | ((with_reducible apply blk_other); focus omega))); (first | rfl | simp))
  have hbZ : Below w.heap.size w Z := by rw [hZ]; exact (by repeat (first | with_reducible exact Below.refl _ _ | with_reducible assumption | refine bgw ?_ (by first | (simp; done) | (simp; omega) | omega) _ | refine Below.setCell ?_ (by first | exact Nat.le_of_not_lt (by assumption) | (simp; done) | (simp; omega) | omega) _ | refine Below.alloc ?_ (by first | (simp; done) | (simp; omega) | omega) _ | refine Below.drew ?_))
  clear hZ
  have okZ := blk_older kZ
  have ckZ_0 : _ = some _ := blk_cell kZ 0
  have ckZ_1 : _ = some _ := blk_cell kZ 1
  have ckZ_2 : _ = some _ := blk_cell kZ 2
  have ckZ_3 : _ = some _ := blk_cell kZ 3
  have fkZ_0 := blk_free kZ 0
  have fkZ_1 := blk_free kZ 1
  have fkZ_2 := blk_free kZ 2
  have fkZ_3 := blk_free kZ 3
  exact bodyPost_ret (v := .agg #[.int .i64 (mul (mul 205888 (mul R R)) D), .int .i64 x0, .int .i64 y0, .int .i64 (mul (mul (mul 205888 (mul R R)) D) (rdiv (mul R R) 2))]) (by simp [results, Try.results20, go_sem, ckZ_0, ckZ_1, ckZ_2, ckZ_3]) rfl ⟨rfl, hbZ⟩

set_option maxHeartbeats 4000000 in
theorem ycap_b (K R : Int) (A : Option Addr) (cap : Nat) (ps : List (Int × Int)) (D : Int) (h2l : 1 < ps.length) (hl : ps.length ≤ 4611686018427387904) (w : World) (hp : Pts w A ps) : Calls Try.prog 21 #[.agg #[.int .i64 K, .int .i64 R, .slice A ps.length cap], .int .i64 D] w fun e w' => e = .returned (.agg #[.int .i64 (capm R ps D), .int .i64 (lerp (hp' ps 0).1 (hp' ps 1).1 32768), .int .i64 (lerp (hp' ps 0).2 (hp' ps 1).2 32768), .int .i64 (mul (capm R ps D) (add (rdiv (mul R R) 2) (rdiv (mul (capl ps) (capl ps)) 12)))]) ∧ Below w.heap.size w w' := by
  have h1l : 0 < ps.length := by omega
  unfold capm capl disk
  rw [hp_get h1l, hp_get h2l]
  obtain ⟨b1, off1, hA1, hc1⟩ := pts_open0 hp h1l
  subst hA1
  have hcB : ∀ w', Below w.heap.size w w' → w'.cell? ⟨b1, off1, none⟩ = some (.int .i64 ps[0].1) ∧ w'.cell? ⟨b1, off1 + 1, none⟩ = some (.int .i64 ps[0].2) ∧ w'.cell? ⟨b1, off1 + 1 * 2, none⟩ = some (.int .i64 ps[1].1) ∧ w'.cell? ⟨b1, off1 + 1 * 2 + 1, none⟩ = some (.int .i64 ps[1].2) := fun w' hb => by
    obtain ⟨b', off', e, hc⟩ := pts_open0 (Pts.to hp hb) h1l
    cases e
    obtain ⟨e0, e1⟩ := hc 0 h1l
    obtain ⟨e2, e3⟩ := hc 1 h2l
    rw [Nat.zero_mul, Nat.add_zero] at e0 e1
    exact ⟨e0, e1, e2, e3⟩
  have j0 : (0 : Int) < (ps.length : Int) := by omega
  have j1 : (1 : Int) < (ps.length : Int) := by omega
  clear hc1
  obtain ⟨x0, hx0⟩ : ∃ x, Hid (ps[0].1 = x) := ⟨ps[0].1, rfl⟩
  obtain ⟨y0, hy0⟩ : ∃ y, Hid (ps[0].2 = y) := ⟨ps[0].2, rfl⟩
  obtain ⟨x1, hx1⟩ : ∃ x, Hid (ps[1].1 = x) := ⟨ps[1].1, rfl⟩
  obtain ⟨y1, hy1⟩ : ∃ y, Hid (ps[1].2 = y) := ⟨ps[1].2, rfl⟩
  rw [hx0.out, hy0.out, hx1.out, hy1.out] at hcB
  rw [hx0.out, hy0.out, hx1.out, hy1.out]
  clear hx0 hy0 hx1 hy1
  go_enter Try.func21, Try.ntmps21
  go_upto_region 1 with fail
  refine wp_named ?_
  intro W hW
  have kS : blk W w.heap.size #[.int .i64 K, .int .i64 R, .slice (some ⟨b1, off1, none⟩) ps.length cap] 25 := by rw [hW]; exact (by repeat (first | with_reducible exact blk_new _ _ _ | ((with_reducible refine blk_at ?_); (simp; done)) | with_reducible apply blk_alloc | with_reducible apply blk_gw | with_reducible apply blk_drew))
  have kR : blk W (w.heap.size + 1) #[.int .i64 0, .int .i64 0, .int .i64 0, .int .i64 0] 30 := by rw [hW]; exact (by repeat (first | with_reducible exact blk_new _ _ _ | ((with_reducible refine blk_at ?_); (simp; done)) | with_reducible apply blk_alloc | with_reducible apply blk_gw | with_reducible apply blk_drew))
  have hbW : Below w.heap.size w W := by rw [hW]; exact (by repeat (first | with_reducible exact Below.refl _ _ | with_reducible assumption | refine bgw ?_ (by first | (simp; done) | (simp; omega) | omega) _ | refine Below.setCell ?_ (by first | exact Nat.le_of_not_lt (by assumption) | (simp; done) | (simp; omega) | omega) _ | refine Below.alloc ?_ (by first | (simp; done) | (simp; omega) | omega) _ | refine Below.drew ?_))
  have hzW : w.heap.size + 1 < W.heap.size := by rw [hW]; simp
  clear hW
  have hszW := hbW.size
  have hcellB : ∀ w', Below W.heap.size W w' → Below W.heap.size W w' ∧ w'.cell? ⟨w.heap.size, 2, none⟩ = some (.slice (some ⟨b1, off1, none⟩) ps.length cap) ∧ w'.cell? ⟨b1, off1, none⟩ = some (.int .i64 x0) ∧ w'.cell? ⟨b1, off1 + 1, none⟩ = some (.int .i64 y0) ∧ w'.cell? ⟨b1, off1 + 1 * 2, none⟩ = some (.int .i64 x1) ∧ w'.cell? ⟨b1, off1 + 1 * 2 + 1, none⟩ = some (.int .i64 y1) := fun w' h => ⟨h, blk_cell (blk_to kS h) 2, hcB w' (Below.trans hbW (h.mono hszW))⟩
  obtain ⟨-, g2, d0, d1, d2, d3⟩ := hcellB _ (Below.refl _ W)
  have okS := blk_older kS
  have ckS_0 : _ = some _ := blk_cell kS 0
  have ckS_1 : _ = some _ := blk_cell kS 1
  have ckS_2 : _ = some _ := blk_cell kS 2
  have fkS_0 := blk_free kS 0
  have fkS_1 := blk_free kS 1
  have fkS_2 := blk_free kS 2
  have okR := blk_older kR
  have ckR_0 : _ = some _ := blk_cell kR 0
  have ckR_1 : _ = some _ := blk_cell kR 1
  have ckR_2 : _ = some _ := blk_cell kR 2
  have ckR_3 : _ = some _ := blk_cell kR 3
  have fkR_0 := blk_free kR 0
  have fkR_1 := blk_free kR 1
  have fkR_2 := blk_free kR 2
  have fkR_3 := blk_free kR 3
  go_cut [5, 6] (fun fr tp wx => ∃ E F : Nat, fr = .pointer (some ⟨E, 0, none⟩) ∧ tp = .pointer (some ⟨F, 0, none⟩) ∧ W.heap.size ≤ E ∧ W.heap.size ≤ F ∧ blk wx E #[.int .i64 x0, .int .i64 y0] 28 ∧ blk wx F #[.int .i64 x1, .int .i64 y1] 28 ∧ Below W.heap.size W wx)
  case first =>
    go_region_held3 (fun w' => Below W.heap.size W w' ∧ w'.cell? ⟨w.heap.size, 2, none⟩ = some (.slice (some ⟨b1, off1, none⟩) ps.length cap) ∧ w'.cell? ⟨b1, off1, none⟩ = some (.int .i64 x0) ∧ w'.cell? ⟨b1, off1 + 1, none⟩ = some (.int .i64 y0) ∧ w'.cell? ⟨b1, off1 + 1 * 2, none⟩ = some (.int .i64 x1) ∧ w'.cell? ⟨b1, off1 + 1 * 2 + 1, none⟩ = some (.int .i64 y1)) (first | (refine hcellB _ ?_; exact (by repeat (first | with_reducible exact Below.refl _ _ | with_reducible assumption | refine bgw ?_ (by first | (simp; done) | (simp; omega) | omega) _ | refine Below.setCell ?_ (by first | exact Nat.le_of_not_lt (by assumption) | (simp; done) | (simp; omega) | omega) _ | refine Below.alloc ?_ (by first | (simp; done) | (simp; omega) | omega) _ | refine Below.drew ?_)))) (fail)
    all_goals
      go_wp2_with fail
    all_goals
      go_meet
      exact ⟨_, _, rfl, rfl, by omega, by omega, (by repeat (first | with_reducible exact blk_new _ _ _ | ((with_reducible refine blk_at ?_); (simp; done)) | with_reducible apply blk_alloc | with_reducible apply blk_gw | with_reducible apply blk_drew)), (by repeat (first | with_reducible exact blk_new _ _ _ | ((with_reducible refine blk_at ?_); (simp; done)) | with_reducible apply blk_alloc | with_reducible apply blk_gw | with_reducible apply blk_drew)), (by repeat (first | with_reducible exact Below.refl _ _ | with_reducible assumption | refine bgw ?_ (by first | (simp; done) | (simp; omega) | omega) _ | refine Below.setCell ?_ (by first | exact Nat.le_of_not_lt (by assumption) | (simp; done) | (simp; omega) | omega) _ | refine Below.alloc ?_ (by first | (simp; done) | (simp; omega) | omega) _ | refine Below.drew ?_))⟩
  case rest =>
  obtain ⟨E, F, rfl, rfl, nE, nF, kE, kF, hbX⟩ := hcut
  generalize wc = X at *
  have kS2 := blk_to kS hbX
  have kR2 := blk_to kR hbX
  have hbX2 : Below w.heap.size w X := Below.trans hbW (hbX.mono hszW)
  clear g2 d0 d1 d2 d3 hcellB hcB kS kR okS okR ckS_0 ckS_1 ckS_2 fkS_0 fkS_1 fkS_2 ckR_0 ckR_1 ckR_2 ckR_3 fkR_0 fkR_1 fkR_2 fkR_3 hbX hbW
  have hszX := hbX2.size
  have okS2 := blk_older kS2
  have ckS2_0 : _ = some _ := blk_cell kS2 0
  have ckS2_1 : _ = some _ := blk_cell kS2 1
  have ckS2_2 : _ = some _ := blk_cell kS2 2
  have fkS2_0 := blk_free kS2 0
  have fkS2_1 := blk_free kS2 1
  have fkS2_2 := blk_free kS2 2
  have okR2 := blk_older kR2
  have ckR2_0 : _ = some _ := blk_cell kR2 0
  have ckR2_1 : _ = some _ := blk_cell kR2 1
  have ckR2_2 : _ = some _ := blk_cell kR2 2
  have ckR2_3 : _ = some _ := blk_cell kR2 3
  have fkR2_0 := blk_free kR2 0
  have fkR2_1 := blk_free kR2 1
  have fkR2_2 := blk_free kR2 2
  have fkR2_3 := blk_free kR2 3
  have okE := blk_older kE
  have ckE_0 : _ = some _ := blk_cell kE 0
  have ckE_1 : _ = some _ := blk_cell kE 1
  have fkE_0 := blk_free kE 0
  have fkE_1 := blk_free kE 1
  have okF := blk_older kF
  have ckF_0 : _ = some _ := blk_cell kF 0
  have ckF_1 : _ = some _ := blk_cell kF 1
  have fkF_0 := blk_free kF 0
  have fkF_1 := blk_free kF 1
  go_wp2_with (first | (go_at_call 36; refine Calls.mono (gw_at (vsub_b _ _ _ _ _)) ?_; rintro e w1 ⟨rfl, q, rfl⟩) | (go_at_call 49; refine Calls.mono (gw_at (vlen_b _ _ _)) ?_; rintro e w1 ⟨rfl, q, rfl⟩) | (go_at_call 38; refine Calls.mono (gw_at (mul_b _ _ _)) ?_; rintro e w1 ⟨rfl, q, rfl⟩) | (go_at_call 37; refine Calls.mono (gw_at (add_b _ _ _)) ?_; rintro e w1 ⟨rfl, q, rfl⟩) | (go_at_call 48; refine Calls.mono (gw_at (rd_b _ _ _)) ?_; rintro e w1 ⟨rfl, q, rfl⟩) | (go_at_call 50; refine Calls.mono (gw_at (vlerp_b _ _ _ _ _ _)) ?_; rintro e w1 ⟨rfl, q, rfl⟩))
  refine wp_region_gw (by kernel_rfl) (by kernel_rfl) ?_
  repeat (go_big_quiet_step ((first | (go_at_call 36; exact gw_call (vsub_b _ _ _ _ _)) | (go_at_call 49; exact gw_call (vlen_b _ _ _)) | (go_at_call 38; exact gw_call (mul_b _ _ _)) | (go_at_call 37; exact gw_call (add_b _ _ _)) | (go_at_call 48; exact gw_call (rd_b _ _ _)) | (go_at_call 50; exact gw_call (vlerp_b _ _ _ _ _ _)))))
  refine wpQuiet_nil ?_
  intro w1 hw1
  obtain ⟨q, rfl⟩ := hw1
  go_wp2_with (first | (go_at_call 36; refine Calls.mono (gw_at (vsub_b _ _ _ _ _)) ?_; rintro e w1 ⟨rfl, q, rfl⟩) | (go_at_call 49; refine Calls.mono (gw_at (vlen_b _ _ _)) ?_; rintro e w1 ⟨rfl, q, rfl⟩) | (go_at_call 38; refine Calls.mono (gw_at (mul_b _ _ _)) ?_; rintro e w1 ⟨rfl, q, rfl⟩) | (go_at_call 37; refine Calls.mono (gw_at (add_b _ _ _)) ?_; rintro e w1 ⟨rfl, q, rfl⟩) | (go_at_call 48; refine Calls.mono (gw_at (rd_b _ _ _)) ?_; rintro e w1 ⟨rfl, q, rfl⟩) | (go_at_call 50; refine Calls.mono (gw_at (vlerp_b _ _ _ _ _ _)) ?_; rintro e w1 ⟨rfl, q, rfl⟩))
  refine post_named ?_
  intro Z hZ
  have kZ : blk Z (w.heap.size + 1) #[.int .i64 (mul (add (mul 205888 (mul R R)) (mul (add R R) (vlen (sub x1 x0) (sub y1 y0)))) D), .int .i64 (lerp x0 x1 32768), .int .i64 (lerp y0 y1 32768), .int .i64 (mul (mul (add (mul 205888 (mul R R)) (mul (add R R) (vlen (sub x1 x0) (sub y1 y0)))) D) (add (rdiv (mul R R) 2) (rdiv (mul (vlen (sub x1 x0) (sub y1 y0)) (vlen (sub x1 x0) (sub y1 y0))) 12)))] 30 := by rw [hZ]; exact (by apply blk_of; (repeat (first | with_reducible exact kR2 | with_reducible apply blk_drew | with_reducible apply blk_gw | with_reducible apply blk_alloc | with_reducible apply blk_set | ((with_reducible apply blk_other); focus omega))); (first | rfl | simp))
  have hbZ : Below w.heap.size w Z := by rw [hZ]; exact (by repeat (first | with_reducible exact Below.refl _ _ | with_reducible assumption | refine bgw ?_ (by first | (simp; done) | (simp; omega) | omega) _ | refine Below.setCell ?_ (by first | exact Nat.le_of_not_lt (by assumption) | (simp; done) | (simp; omega) | omega) _ | refine Below.alloc ?_ (by first | (simp; done) | (simp; omega) | omega) _ | refine Below.drew ?_))
  clear hZ
  have okZ := blk_older kZ
  have ckZ_0 : _ = some _ := blk_cell kZ 0
  have ckZ_1 : _ = some _ := blk_cell kZ 1
  have ckZ_2 : _ = some _ := blk_cell kZ 2
  have ckZ_3 : _ = some _ := blk_cell kZ 3
  have fkZ_0 := blk_free kZ 0
  have fkZ_1 := blk_free kZ 1
  have fkZ_2 := blk_free kZ 2
  have fkZ_3 := blk_free kZ 3
  exact bodyPost_ret (v := .agg #[.int .i64 (mul (add (mul 205888 (mul R R)) (mul (add R R) (vlen (sub x1 x0) (sub y1 y0)))) D), .int .i64 (lerp x0 x1 32768), .int .i64 (lerp y0 y1 32768), .int .i64 (mul (mul (add (mul 205888 (mul R R)) (mul (add R R) (vlen (sub x1 x0) (sub y1 y0)))) D) (add (rdiv (mul R R) 2) (rdiv (mul (vlen (sub x1 x0) (sub y1 y0)) (vlen (sub x1 x0) (sub y1 y0))) 12)))]) (by simp [results, Try.results21, go_sem, ckZ_0, ckZ_1, ckZ_2, ckZ_3]) rfl ⟨rfl, hbZ⟩

set_option maxHeartbeats 8000000 in
theorem ygyr_b (A : Option Addr) (cap : Nat) (ps : List (Int × Int)) (cx cy : Int) (hl : ps.length ≤ 8) (w : World) (ha : Pts w A ps) : Calls Try.prog 53 #[.slice A ps.length cap, .agg #[.int .i64 cx, .int .i64 cy]] w fun e w' => e = .returned (.int .i64 (rdiv (rdiv (sumA ps cx cy ps.length) (sumB ps cx cy ps.length)) 6)) ∧ Below w.heap.size w w' := by
  have hsA : ∀ k, k < ps.length → Hid (sumA ps cx cy (k + 1) = sumA ps cx cy k + kkI ps cx cy k * ddI ps cx cy k) := fun k _ => rfl
  have hsB : ∀ k, k < ps.length → Hid (sumB ps cx cy (k + 1) = sumB ps cx cy k + kkI ps cx cy k) := fun k _ => rfl
  have hin := sums_in ps cx cy
  have hA0 : sumA ps cx cy 0 = 0 := rfl
  have hB0 : sumB ps cx cy 0 = 0 := rfl
  go_enter Try.func53, Try.ntmps53
  go_wp2_with fail
  refine wp_named ?_
  intro W hW
  have kC : blk W w.heap.size #[.int .i64 cx, .int .i64 cy] 28 := by rw [hW]; exact (by repeat (first | with_reducible exact blk_new _ _ _ | ((with_reducible refine blk_at ?_); (simp; done)) | with_reducible apply blk_alloc | with_reducible apply blk_gw | with_reducible apply blk_drew))
  have hbW : Below w.heap.size w W := by rw [hW]; exact (by repeat (first | with_reducible exact Below.refl _ _ | with_reducible assumption | refine bgw ?_ (by first | (simp; done) | (simp; omega) | omega) _ | refine Below.setCell ?_ (by first | exact Nat.le_of_not_lt (by assumption) | (simp; done) | (simp; omega) | omega) _ | refine Below.alloc ?_ (by first | (simp; done) | (simp; omega) | omega) _ | refine Below.drew ?_))
  clear hW
  have hszW := hbW.size
  have hP : Pts W A ps := Pts.to ha hbW
  go_loopw [5, 6, 14] (fun b a i wr => ∃ k : Nat, k ≤ ps.length ∧ i = .int .i64 (k : Int) ∧ b = .int .i64 (sumB ps cx cy k) ∧ a = .int .i64 (sumA ps cx cy k) ∧ ∃ p, wr = gw W p)
    (fun _ _ i _ => (ps.length - intOf i).toNat)
  case atStart => exact ⟨0, by omega, rfl, by rw [hB0], by rw [hA0], ⟨⟨W.drawn, #[]⟩, (gw_zero W).symm⟩⟩
  case round =>
    obtain ⟨k, hk, rfl, rfl, rfl, p, rfl⟩ := hrel
    by_cases hlt : k < ps.length
    · have j0 : (0 : Int) ≤ (k : Int) := by omega
      have j1 : (k : Int) < (ps.length : Int) := by omega
      obtain ⟨b2, off2, hA2, hc2⟩ := pts_open hP (by omega)
      subst hA2
      have hmod := Nat.mod_lt (k + 1) (show 0 < ps.length by omega)
      have hm : ((k : Int) + 1).tmod (ps.length : Int) = (((k + 1) % ps.length : Nat) : Int) := next_mod
      have hnz : ((ps.length : Int) == 0) = false := by rw [beq_eq_false_iff_ne]; omega
      have hkk : Hid (kkI ps cx cy k = cross (sub (hp' ps k).1 cx) (sub (hp' ps k).2 cy) (sub (hp' ps (k + 1)).1 cx) (sub (hp' ps (k + 1)).2 cy)) := rfl
      have hdd : Hid (ddI ps cx cy k = dot (sub (hp' ps k).1 cx) (sub (hp' ps k).2 cy) (sub (hp' ps k).1 cx) (sub (hp' ps k).2 cy) + dot (sub (hp' ps k).1 cx) (sub (hp' ps k).2 cy) (sub (hp' ps (k + 1)).1 cx) (sub (hp' ps (k + 1)).2 cy) + dot (sub (hp' ps (k + 1)).1 cx) (sub (hp' ps (k + 1)).2 cy) (sub (hp' ps (k + 1)).1 cx) (sub (hp' ps (k + 1)).2 cy)) := rfl
      have q1 := hin k
      have q2 := hin (k + 1)
      have q3 := kk_in ps cx cy k
      have q4 := dd_in ps cx cy k
      have q5 := mul_between q3.1 q3.2 q4.1 q4.2
      have hA1 := hsA k hlt
      have hB1 := hsB k hlt
      rw [← hp_mod ps (k + 1)] at hkk hdd
      generalize (k + 1) % ps.length = nx at *
      rw [hp_get hlt, hp_get hmod] at hkk hdd
      have x0 : (0 : Int) ≤ (nx : Int) := by omega
      have x1 : (nx : Int) < (ps.length : Int) := by omega
      obtain ⟨d0, d1⟩ := hc2 p k hlt
      have ob := older_of_cell d0
      have hcB : ∀ w', Below W.heap.size W w' → w'.cell? ⟨b2, off2 + nx * 2, none⟩ = some (.int .i64 ps[nx].1) ∧ w'.cell? ⟨b2, off2 + nx * 2 + 1, none⟩ = some (.int .i64 ps[nx].2) := fun w' hb => by
        obtain ⟨r, rfl⟩ := gw_of_below hb
        exact hc2 r nx hmod
      clear hc2 hsA hsB hA0 hB0 hin
      generalize ps[k].1 = xk at *
      generalize ps[k].2 = yk at *
      generalize ps[nx].1 = xn at *
      generalize ps[nx].2 = yn at *
      go_upto_region 5 with fail
      refine wp_named ?_
      intro V hV
      have kF : blk V (W.heap.size + p.os.size) #[.int .i64 xk, .int .i64 yk] 28 := by rw [hV]; first | exact (by repeat (first | with_reducible exact blk_new _ _ _ | ((with_reducible refine blk_at ?_); (simp; done)) | with_reducible apply blk_alloc | with_reducible apply blk_gw | with_reducible apply blk_drew)) | exact (by apply blk_of; (repeat (first  | with_reducible apply blk_drew | with_reducible apply blk_gw | with_reducible apply blk_alloc | with_reducible apply blk_set | ((with_reducible apply blk_other); focus omega))); (first | rfl | simp))
      have kC2 : blk V w.heap.size #[.int .i64 cx, .int .i64 cy] 28 := by rw [hV]; exact (by apply blk_of; (repeat (first | with_reducible exact kC | with_reducible apply blk_drew | with_reducible apply blk_gw | with_reducible apply blk_alloc | with_reducible apply blk_set | ((with_reducible apply blk_other); focus omega))); (first | rfl | simp))
      have hbV : Below W.heap.size W V := by rw [hV]; exact (by repeat (first | with_reducible exact Below.refl _ _ | with_reducible assumption | refine bgw ?_ (by first | (simp; done) | (simp; omega) | omega) _ | refine Below.setCell ?_ (by first | exact Nat.le_of_not_lt (by assumption) | (simp; done) | (simp; omega) | omega) _ | refine Below.alloc ?_ (by first | (simp; done) | (simp; omega) | omega) _ | refine Below.drew ?_))
      clear hV
      obtain ⟨f0, f1⟩ := hcB V hbV
      have of := older_of_cell f0
      generalize W.heap.size + p.os.size = F at *
      have okF := blk_older kF
      have ckF_0 : _ = some _ := blk_cell kF 0
      have ckF_1 : _ = some _ := blk_cell kF 1
      have fkF_0 := blk_free kF 0
      have fkF_1 := blk_free kF 1
      have okC2 := blk_older kC2
      have ckC2_0 : _ = some _ := blk_cell kC2 0
      have ckC2_1 : _ = some _ := blk_cell kC2 1
      have fkC2_0 := blk_free kC2 0
      have fkC2_1 := blk_free kC2 1
      clear hcB
      apply wp_box2 15 58 13 9 14 10 #[.int .i64 0, .int .i64 0] #[.int .i64 0, .int .i64 0] 28 28 (by kernel_rfl) (by rfl) (by kernel_rfl) (by rfl) (by intro o ho a w; simp at ho; subst ho; simp [go_sem, ptr]) (by intro o ho a w; simp at ho; subst ho; simp [go_sem, ptr])
      · intro p0
        simp only [heads, ghost, List.take_succ_cons, List.take_zero, List.map_cons, List.map_nil]
        repeat (go_big_quiet_step ((first | (go_at_call 36; exact gw_call (vsub_b _ _ _ _ _)) | (go_at_call 77; exact gw_call (cross_b _ _ _ _ _)) | (go_at_call 39; exact gw_call (dot_b _ _ _ _ _)) | (go_at_call 48; exact gw_call (rd_b _ _ _)))))
        exact wpQuiet_nil rfl
      · intro R bB1 bB2 p0 nB1 nB2 gB1 gB2 neB01 neB01' kB1 kB2 hK
        simp only [List.drop_succ_cons, List.drop_zero, Act.put, ptr, List.setIfInBounds_toArray, List.set_cons_succ, List.set_cons_zero]
        have cB1_0 : _ = some _ := blk_cell kB1 0
        have cB1_1 : _ = some _ := blk_cell kB1 1
        have cB2_0 : _ = some _ := blk_cell kB2 0
        have cB2_1 : _ = some _ := blk_cell kB2 1
        have fB1_0 := blk_free kB1 0
        have fB1_1 := blk_free kB1 1
        have fB2_0 := blk_free kB2 0
        have fB2_1 := blk_free kB2 1
        have oB1 := blk_older kB1
        have oB2 := blk_older kB2
        go_wp2_with fail
        refine box_end2 gB1 gB2 hK ?_ ?_ ?_
        · exact (by repeat (first | with_reducible exact Below.refl _ _ | with_reducible assumption | refine bgw ?_ (by first | (simp; done) | (simp; omega) | omega) _ | refine Below.setCell ?_ (by first | exact Nat.le_of_not_lt (by assumption) | (simp; done) | (simp; omega) | omega) _ | refine Below.alloc ?_ (by first | (simp; done) | (simp; omega) | omega) _ | refine Below.drew ?_))
        · exact (by repeat' (first | with_reducible assumption | with_reducible apply blk_gw | with_reducible apply blk_alloc | with_reducible apply blk_set | ((with_reducible apply blk_other); focus (first | omega | assumption))))
        · exact (by repeat' (first | with_reducible assumption | with_reducible apply blk_gw | with_reducible apply blk_alloc | with_reducible apply blk_set | ((with_reducible apply blk_other); focus (first | omega | assumption))))
      intro bB1 bB2 p0 nB1 nB2 neB01 neB01' kB1 kB2
      have cB1_0 : _ = some _ := blk_cell kB1 0
      have cB1_1 : _ = some _ := blk_cell kB1 1
      have cB2_0 : _ = some _ := blk_cell kB2 0
      have cB2_1 : _ = some _ := blk_cell kB2 1
      have fB1_0 := blk_free kB1 0
      have fB1_1 := blk_free kB1 1
      have fB2_0 := blk_free kB2 0
      have fB2_1 := blk_free kB2 1
      have oB1 := blk_older kB1
      have oB2 := blk_older kB2
      have cK : ∀ w', Calls Try.prog 77 #[.agg #[.int .i64 (sub xk cx), .int .i64 (sub yk cy)], .agg #[.int .i64 (sub xn cx), .int .i64 (sub yn cy)]] w' fun e w'' => e = .returned (.int .i64 (kkI ps cx cy k)) ∧ Below w'.heap.size w' w'' := fun w' => by rw [hkk.out]; exact cross_b _ _ _ _ _
      have cD1 := fun w' => dot_b (sub xk cx) (sub yk cy) (sub xk cx) (sub yk cy) w'
      have cD2 := fun w' => dot_b (sub xk cx) (sub yk cy) (sub xn cx) (sub yn cy) w'
      have cD3 := fun w' => dot_b (sub xn cx) (sub yn cy) (sub xn cx) (sub yn cy) w'
      have b1 := dot_in (sub xk cx) (sub yk cy) (sub xk cx) (sub yk cy)
      have b2 := dot_in (sub xk cx) (sub yk cy) (sub xn cx) (sub yn cy)
      have b3 := dot_in (sub xn cx) (sub yn cy) (sub xn cx) (sub yn cy)
      have hd := hdd.out
      clear hkk hdd
      generalize dot (sub xk cx) (sub yk cy) (sub xk cx) (sub yk cy) = D1 at *
      generalize dot (sub xk cx) (sub yk cy) (sub xn cx) (sub yn cy) = D2 at *
      generalize dot (sub xn cx) (sub yn cy) (sub xn cx) (sub yn cy) = D3 at *
      generalize kkI ps cx cy k = KK at *
      generalize ddI ps cx cy k = DD at *
      subst hd
      have g1 : wrap64 (D1 + D2) = D1 + D2 := by unfold wrap64; omega
      have g2 : wrap64 (D1 + D2 + D3) = D1 + D2 + D3 := by unfold wrap64; omega
      have hA2 := hA1.out
      have hB2 := hB1.out
      have g3 : wrap64 (KK * (D1 + D2 + D3)) = KK * (D1 + D2 + D3) := by unfold wrap64; omega
      have g4 : wrap64 (sumA ps cx cy k + KK * (D1 + D2 + D3)) = sumA ps cx cy k + KK * (D1 + D2 + D3) := by rw [← hA2]; unfold wrap64; omega
      have g5 : wrap64 (sumB ps cx cy k + KK) = sumB ps cx cy k + KK := by rw [← hB2]; unfold wrap64; omega
      clear hA2 hB2 q1 q2 q3 q4 q5
      generalize sumA ps cx cy k = SA at *
      generalize sumB ps cx cy k = SB at *
      go_wp2_with (go_at_call 77; refine Calls.mono (gw_at (cK _)) ?_; rintro e w1 ⟨rfl, q, rfl⟩)
      refine wp_region_gw (by kernel_rfl) (by kernel_rfl) ?_
      repeat (go_big_quiet_step (first | (go_at_call 39; (with_reducible show Calls _ _ #[.agg #[.int .i64 (sub xk cx), _], .agg #[.int .i64 (sub xk cx), _]] _ _); exact gw_call (cD1 _)) | (go_at_call 39; (with_reducible show Calls _ _ #[.agg #[.int .i64 (sub xk cx), _], .agg #[.int .i64 (sub xn cx), _]] _ _); exact gw_call (cD2 _)) | (go_at_call 39; (with_reducible show Calls _ _ #[.agg #[.int .i64 (sub xn cx), _], .agg #[.int .i64 (sub xn cx), _]] _ _); exact gw_call (cD3 _))))
      refine wpQuiet_nil ?_
      intro w1 hw1
      obtain ⟨q9, rfl⟩ := hw1
      go_wp2_with fail
      exact ⟨⟨k + 1, by omega, by go_num, by rw [hB1.out, g5], by rw [hA1.out, g4], gw_of_below (Below.trans hbV (Below.mono (by repeat (first | with_reducible exact Below.refl _ _ | with_reducible assumption | refine bgw ?_ (by first | (simp; done) | (simp; omega) | omega) _ | refine Below.setCell ?_ (by first | exact Nat.le_of_not_lt (by assumption) | (simp; done) | (simp; omega) | omega) _ | refine Below.alloc ?_ (by first | (simp; done) | (simp; omega) | omega) _ | refine Below.drew ?_)) hbV.size))⟩, by (try go_num); simp [intOf]; (try omega)⟩
    · obtain rfl : k = ps.length := by omega
      have j1 : ¬ (ps.length : Int) < (ps.length : Int) := by omega
      clear hsA hsB hA0 hB0 hin
      go_wp2_with (first | (go_at_call 36; refine Calls.mono (gw_at (vsub_b _ _ _ _ _)) ?_; rintro e w1 ⟨rfl, q, rfl⟩) | (go_at_call 77; refine Calls.mono (gw_at (cross_b _ _ _ _ _)) ?_; rintro e w1 ⟨rfl, q, rfl⟩) | (go_at_call 39; refine Calls.mono (gw_at (dot_b _ _ _ _ _)) ?_; rintro e w1 ⟨rfl, q, rfl⟩) | (go_at_call 48; refine Calls.mono (gw_at (rd_b _ _ _)) ?_; rintro e w1 ⟨rfl, q, rfl⟩))
      go_ret
      exact ⟨rfl, (by repeat (first | with_reducible exact Below.refl _ _ | with_reducible assumption | refine bgw ?_ (by first | (simp; done) | (simp; omega) | omega) _ | refine Below.setCell ?_ (by first | exact Nat.le_of_not_lt (by assumption) | (simp; done) | (simp; omega) | omega) _ | refine Below.alloc ?_ (by first | (simp; done) | (simp; omega) | omega) _ | refine Below.drew ?_))⟩

theorem pin_eq (ps : List (Int × Int)) (cx cy m : Int) : pin ps cx cy m = mul m (rdiv (rdiv (sumA ps cx cy ps.length) (sumB ps cx cy ps.length)) 6) := by
  unfold pin
  split
  · rename_i h
    have e : rdiv (sumA ps cx cy ps.length) (sumB ps cx cy ps.length) = 0 := by
      exact rdiv_out (by omega)
    rw [e, show rdiv 0 6 = 0 from by decide +kernel]
    unfold mul; rw [sat_zero, Int.mul_zero]; decide +kernel
  · rfl

set_option maxHeartbeats 4000000 in
theorem ypol_b (K R : Int) (A : Option Addr) (cap : Nat) (ps : List (Int × Int)) (D : Int) (h8 : ps.length ≤ 8) (w : World) (hp : Pts w A ps) (hk : ps.length ≤ cap) : Calls Try.prog 22 #[.agg #[.int .i64 K, .int .i64 R, .slice A ps.length cap], .int .i64 D] w fun e w' => e = .returned (.agg #[.int .i64 (mul (areaP ps) D), .int .i64 (cenP ps).1, .int .i64 (cenP ps).2, .int .i64 (pin ps (cenP ps).1 (cenP ps).2 (mul (areaP ps) D))]) ∧ Below w.heap.size w w' := by
  rw [pin_eq]
  have cA := fun w' h => xarea_b A cap ps (by omega) w' h hk
  have cC := fun w' h => xcen_b A cap ps (by omega) w' h hk
  have cG := fun w' h => ygyr_b A cap ps (cenP ps).1 (cenP ps).2 h8 w' h
  generalize (cenP ps).1 = cx at *
  generalize (cenP ps).2 = cy at *
  generalize areaP ps = AR at *
  generalize rdiv (rdiv (sumA ps cx cy ps.length) (sumB ps cx cy ps.length)) 6 = GY at *
  go_enter Try.func22, Try.ntmps22
  go_upto_region 1 with fail
  refine wp_named ?_
  intro W hW
  have kS : blk W w.heap.size #[.int .i64 K, .int .i64 R, .slice A ps.length cap] 25 := by rw [hW]; exact (by repeat (first | with_reducible exact blk_new _ _ _ | ((with_reducible refine blk_at ?_); (simp; done)) | with_reducible apply blk_alloc | with_reducible apply blk_gw | with_reducible apply blk_drew))
  have kR : blk W (w.heap.size + 1) #[.int .i64 0, .int .i64 0, .int .i64 0, .int .i64 0] 30 := by rw [hW]; exact (by repeat (first | with_reducible exact blk_new _ _ _ | ((with_reducible refine blk_at ?_); (simp; done)) | with_reducible apply blk_alloc | with_reducible apply blk_gw | with_reducible apply blk_drew))
  have hbW : Below w.heap.size w W := by rw [hW]; exact (by repeat (first | with_reducible exact Below.refl _ _ | with_reducible assumption | refine bgw ?_ (by first | (simp; done) | (simp; omega) | omega) _ | refine Below.setCell ?_ (by first | exact Nat.le_of_not_lt (by assumption) | (simp; done) | (simp; omega) | omega) _ | refine Below.alloc ?_ (by first | (simp; done) | (simp; omega) | omega) _ | refine Below.drew ?_))
  clear hW
  have hszW := hbW.size
  have hP : Pts W A ps := Pts.to hp hbW
  have okS := blk_older kS
  have ckS_0 : _ = some _ := blk_cell kS 0
  have ckS_1 : _ = some _ := blk_cell kS 1
  have ckS_2 : _ = some _ := blk_cell kS 2
  have fkS_0 := blk_free kS 0
  have fkS_1 := blk_free kS 1
  have fkS_2 := blk_free kS 2
  have okR := blk_older kR
  have ckR_0 : _ = some _ := blk_cell kR 0
  have ckR_1 : _ = some _ := blk_cell kR 1
  have ckR_2 : _ = some _ := blk_cell kR 2
  have ckR_3 : _ = some _ := blk_cell kR 3
  have fkR_0 := blk_free kR 0
  have fkR_1 := blk_free kR 1
  have fkR_2 := blk_free kR 2
  have fkR_3 := blk_free kR 3
  apply wp_box1 10 24 8 6 #[.int .i64 0, .int .i64 0] 28 (by kernel_rfl) (by rfl) (by kernel_rfl) (by intro o ho a w; simp at ho; subst ho; simp [go_sem, ptr])
  · intro p0
    simp only [heads, ghost, List.take_succ_cons, List.take_zero, List.map_cons, List.map_nil]
    repeat (go_big_quiet_step ((first | (go_at_call 51; with_reducible_and_instances exact gw_call (cA _ (Pts.to hP (by repeat (first | with_reducible exact Below.refl _ _ | with_reducible assumption | refine bgw ?_ (by first | (simp; done) | (simp; omega) | omega) _ | refine Below.setCell ?_ (by first | exact Nat.le_of_not_lt (by assumption) | (simp; done) | (simp; omega) | omega) _ | refine Below.alloc ?_ (by first | (simp; done) | (simp; omega) | omega) _ | refine Below.drew ?_))))) | (go_at_call 38; with_reducible_and_instances exact gw_call (mul_b _ _ _)) | (go_at_call 52; with_reducible_and_instances exact gw_call (cC _ (Pts.to hP (by repeat (first | with_reducible exact Below.refl _ _ | with_reducible assumption | refine bgw ?_ (by first | (simp; done) | (simp; omega) | omega) _ | refine Below.setCell ?_ (by first | exact Nat.le_of_not_lt (by assumption) | (simp; done) | (simp; omega) | omega) _ | refine Below.alloc ?_ (by first | (simp; done) | (simp; omega) | omega) _ | refine Below.drew ?_))))))))
    exact wpQuiet_nil rfl
  · intro R bB p0 nB gB  kB hK
    simp only [List.drop_succ_cons, List.drop_zero, Act.put, ptr, List.setIfInBounds_toArray, List.set_cons_succ, List.set_cons_zero]
    have cB_0 : _ = some _ := blk_cell kB 0
    have cB_1 : _ = some _ := blk_cell kB 1
    have fB_0 := blk_free kB 0
    have fB_1 := blk_free kB 1
    have oB := blk_older kB
    go_wp2_with fail
    refine box_end1 gB hK ?_ ?_
    · exact (by repeat (first | with_reducible exact Below.refl _ _ | with_reducible assumption | refine bgw ?_ (by first | (simp; done) | (simp; omega) | omega) _ | refine Below.setCell ?_ (by first | exact Nat.le_of_not_lt (by assumption) | (simp; done) | (simp; omega) | omega) _ | refine Below.alloc ?_ (by first | (simp; done) | (simp; omega) | omega) _ | refine Below.drew ?_))
    · exact (by repeat' (first | with_reducible assumption | with_reducible apply blk_gw | with_reducible apply blk_alloc | with_reducible apply blk_set | ((with_reducible apply blk_other); focus (first | omega | assumption))))
  intro bB p0 nB  kB
  have cB_0 : _ = some _ := blk_cell kB 0
  have cB_1 : _ = some _ := blk_cell kB 1
  have fB_0 := blk_free kB 0
  have fB_1 := blk_free kB 1
  have oB := blk_older kB
  go_upto_region 2 with fail
  refine wp_region_gw_tail 9 (by kernel_rfl) (by kernel_rfl) ?_
  simp only [List.take_succ_cons, List.take_zero, List.drop_succ_cons, List.drop_zero]
  repeat (go_big_quiet_step ((first | (go_at_call 53; with_reducible_and_instances exact gw_call (cG _ (Pts.to hP (by repeat (first | with_reducible exact Below.refl _ _ | with_reducible assumption | refine bgw ?_ (by first | (simp; done) | (simp; omega) | omega) _ | refine Below.setCell ?_ (by first | exact Nat.le_of_not_lt (by assumption) | (simp; done) | (simp; omega) | omega) _ | refine Below.alloc ?_ (by first | (simp; done) | (simp; omega) | omega) _ | refine Below.drew ?_))))) | (go_at_call 38; with_reducible_and_instances exact gw_call (mul_b _ _ _)))))
  refine wpQuiet_nil ?_
  intro w1 hw1
  obtain ⟨q, rfl⟩ := hw1
  go_wp2_with fail
  refine post_named ?_
  intro Z hZ
  have kZ : blk Z (w.heap.size + 1) #[.int .i64 (mul AR D), .int .i64 cx, .int .i64 cy, .int .i64 (mul (mul AR D) GY)] 30 := by rw [hZ]; exact (by apply blk_of; (repeat (first | with_reducible exact kR | with_reducible apply blk_drew | with_reducible apply blk_gw | with_reducible apply blk_alloc | with_reducible apply blk_set | ((with_reducible apply blk_other); focus omega))); (first | rfl | simp))
  have hbZ : Below w.heap.size w Z := by rw [hZ]; exact (by repeat (first | with_reducible exact Below.refl _ _ | with_reducible assumption | refine bgw ?_ (by first | (simp; done) | (simp; omega) | omega) _ | refine Below.setCell ?_ (by first | exact Nat.le_of_not_lt (by assumption) | (simp; done) | (simp; omega) | omega) _ | refine Below.alloc ?_ (by first | (simp; done) | (simp; omega) | omega) _ | refine Below.drew ?_))
  clear hZ
  have okZ := blk_older kZ
  have ckZ_0 : _ = some _ := blk_cell kZ 0
  have ckZ_1 : _ = some _ := blk_cell kZ 1
  have ckZ_2 : _ = some _ := blk_cell kZ 2
  have ckZ_3 : _ = some _ := blk_cell kZ 3
  have fkZ_0 := blk_free kZ 0
  have fkZ_1 := blk_free kZ 1
  have fkZ_2 := blk_free kZ 2
  have fkZ_3 := blk_free kZ 3
  exact bodyPost_ret (v := .agg #[.int .i64 (mul AR D), .int .i64 cx, .int .i64 cy, .int .i64 (mul (mul AR D) GY)]) (by simp [results, Try.results22, go_sem, ckZ_0, ckZ_1, ckZ_2, ckZ_3]) rfl ⟨rfl, hbZ⟩

set_option maxRecDepth 100000 in
set_option maxHeartbeats 8000000 in
theorem yofs_b (K R : Int) (A : Option Addr) (cap : Nat) (ps : List (Int × Int)) (D : Int) (hl : ps.length ≤ 1000000) (w : World) (hp : Pts w A ps) (hk : ps.length ≤ cap := by first | omega | decide) : Calls Try.prog 10 #[.agg #[.int .i64 K, .int .i64 R, .slice A ps.length cap], .int .i64 D] w fun e w' => e = .returned (.agg #[.int .i64 (ofS K R ps D).m, .int .i64 (ofS K R ps D).x, .int .i64 (ofS K R ps D).y, .int .i64 (ofS K R ps D).i]) ∧ Below w.heap.size w w' := by
  have cV := fun w' h => yval_b K R A cap ps hl w' h hk
  by_cases hno : valS K R ps ≠ 0 ∨ D < 0 ∨ 262144 < D
  · rw [ofS_no hno]
    by_cases hv : valS K R ps = 0
    · rw [hv] at cV
      by_cases h0 : D < 0
      · clear hno hv
        go_enter Try.func10, Try.ntmps10
        go_wp2_with (go_at_call 19; refine Calls.mono (gw_at (cV _ (Pts.to hp (by repeat (first | with_reducible exact Below.refl _ _ | with_reducible assumption | refine bgw ?_ (by first | (simp; done) | (simp; omega) | omega) _ | refine Below.setCell ?_ (by first | exact Nat.le_of_not_lt (by assumption) | (simp; done) | (simp; omega) | omega) _ | refine Below.alloc ?_ (by first | (simp; done) | (simp; omega) | omega) _ | refine Below.drew ?_))))) ?_; rintro e w1 ⟨rfl, q, rfl⟩)
        refine post_named ?_
        intro Z hZ
        have kZ : blk Z (w.heap.size + 1) #[.int .i64 0, .int .i64 0, .int .i64 0, .int .i64 0] 30 := by rw [hZ]; exact (by repeat (first | with_reducible exact blk_new _ _ _ | ((with_reducible refine blk_at ?_); (simp; done)) | with_reducible apply blk_alloc | with_reducible apply blk_gw | with_reducible apply blk_drew))
        have hbZ : Below w.heap.size w Z := by rw [hZ]; exact (by repeat (first | with_reducible exact Below.refl _ _ | with_reducible assumption | refine bgw ?_ (by first | (simp; done) | (simp; omega) | omega) _ | refine Below.setCell ?_ (by first | exact Nat.le_of_not_lt (by assumption) | (simp; done) | (simp; omega) | omega) _ | refine Below.alloc ?_ (by first | (simp; done) | (simp; omega) | omega) _ | refine Below.drew ?_))
        clear hZ
        have okZ := blk_older kZ
        have ckZ_0 : _ = some _ := blk_cell kZ 0
        have ckZ_1 : _ = some _ := blk_cell kZ 1
        have ckZ_2 : _ = some _ := blk_cell kZ 2
        have ckZ_3 : _ = some _ := blk_cell kZ 3
        have fkZ_0 := blk_free kZ 0
        have fkZ_1 := blk_free kZ 1
        have fkZ_2 := blk_free kZ 2
        have fkZ_3 := blk_free kZ 3
        exact bodyPost_ret (v := .agg #[.int .i64 0, .int .i64 0, .int .i64 0, .int .i64 0]) (by simp [results, Try.results10, go_sem, ckZ_0, ckZ_1, ckZ_2, ckZ_3]) rfl ⟨rfl, hbZ⟩
      · have h1 : 262144 < D := by omega
        clear hno hv
        go_enter Try.func10, Try.ntmps10
        go_wp2_with (go_at_call 19; refine Calls.mono (gw_at (cV _ (Pts.to hp (by repeat (first | with_reducible exact Below.refl _ _ | with_reducible assumption | refine bgw ?_ (by first | (simp; done) | (simp; omega) | omega) _ | refine Below.setCell ?_ (by first | exact Nat.le_of_not_lt (by assumption) | (simp; done) | (simp; omega) | omega) _ | refine Below.alloc ?_ (by first | (simp; done) | (simp; omega) | omega) _ | refine Below.drew ?_))))) ?_; rintro e w1 ⟨rfl, q, rfl⟩)
        refine post_named ?_
        intro Z hZ
        have kZ : blk Z (w.heap.size + 1) #[.int .i64 0, .int .i64 0, .int .i64 0, .int .i64 0] 30 := by rw [hZ]; exact (by repeat (first | with_reducible exact blk_new _ _ _ | ((with_reducible refine blk_at ?_); (simp; done)) | with_reducible apply blk_alloc | with_reducible apply blk_gw | with_reducible apply blk_drew))
        have hbZ : Below w.heap.size w Z := by rw [hZ]; exact (by repeat (first | with_reducible exact Below.refl _ _ | with_reducible assumption | refine bgw ?_ (by first | (simp; done) | (simp; omega) | omega) _ | refine Below.setCell ?_ (by first | exact Nat.le_of_not_lt (by assumption) | (simp; done) | (simp; omega) | omega) _ | refine Below.alloc ?_ (by first | (simp; done) | (simp; omega) | omega) _ | refine Below.drew ?_))
        clear hZ
        have okZ := blk_older kZ
        have ckZ_0 : _ = some _ := blk_cell kZ 0
        have ckZ_1 : _ = some _ := blk_cell kZ 1
        have ckZ_2 : _ = some _ := blk_cell kZ 2
        have ckZ_3 : _ = some _ := blk_cell kZ 3
        have fkZ_0 := blk_free kZ 0
        have fkZ_1 := blk_free kZ 1
        have fkZ_2 := blk_free kZ 2
        have fkZ_3 := blk_free kZ 3
        exact bodyPost_ret (v := .agg #[.int .i64 0, .int .i64 0, .int .i64 0, .int .i64 0]) (by simp [results, Try.results10, go_sem, ckZ_0, ckZ_1, ckZ_2, ckZ_3]) rfl ⟨rfl, hbZ⟩
    · have b1 : (valS K R ps != 0) = true := by rw [bne_iff_ne]; exact hv
      clear hno hv
      generalize valS K R ps = V at *
      go_enter Try.func10, Try.ntmps10
      go_wp2_with (go_at_call 19; refine Calls.mono (gw_at (cV _ (Pts.to hp (by repeat (first | with_reducible exact Below.refl _ _ | with_reducible assumption | refine bgw ?_ (by first | (simp; done) | (simp; omega) | omega) _ | refine Below.setCell ?_ (by first | exact Nat.le_of_not_lt (by assumption) | (simp; done) | (simp; omega) | omega) _ | refine Below.alloc ?_ (by first | (simp; done) | (simp; omega) | omega) _ | refine Below.drew ?_))))) ?_; rintro e w1 ⟨rfl, q, rfl⟩)
      refine post_named ?_
      intro Z hZ
      have kZ : blk Z (w.heap.size + 1) #[.int .i64 0, .int .i64 0, .int .i64 0, .int .i64 0] 30 := by rw [hZ]; exact (by repeat (first | with_reducible exact blk_new _ _ _ | ((with_reducible refine blk_at ?_); (simp; done)) | with_reducible apply blk_alloc | with_reducible apply blk_gw | with_reducible apply blk_drew))
      have hbZ : Below w.heap.size w Z := by rw [hZ]; exact (by repeat (first | with_reducible exact Below.refl _ _ | with_reducible assumption | refine bgw ?_ (by first | (simp; done) | (simp; omega) | omega) _ | refine Below.setCell ?_ (by first | exact Nat.le_of_not_lt (by assumption) | (simp; done) | (simp; omega) | omega) _ | refine Below.alloc ?_ (by first | (simp; done) | (simp; omega) | omega) _ | refine Below.drew ?_))
      clear hZ
      have okZ := blk_older kZ
      have ckZ_0 : _ = some _ := blk_cell kZ 0
      have ckZ_1 : _ = some _ := blk_cell kZ 1
      have ckZ_2 : _ = some _ := blk_cell kZ 2
      have ckZ_3 : _ = some _ := blk_cell kZ 3
      have fkZ_0 := blk_free kZ 0
      have fkZ_1 := blk_free kZ 1
      have fkZ_2 := blk_free kZ 2
      have fkZ_3 := blk_free kZ 3
      exact bodyPost_ret (v := .agg #[.int .i64 0, .int .i64 0, .int .i64 0, .int .i64 0]) (by simp [results, Try.results10, go_sem, ckZ_0, ckZ_1, ckZ_2, ckZ_3]) rfl ⟨rfl, hbZ⟩
  have hv : valS K R ps = 0 := by omega
  have h0 : ¬ D < 0 := by omega
  have h1 : ¬ 262144 < D := by omega
  have hlen := val_len hv
  have hK := (valS_zero.1 hv).1
  rw [hv] at cV
  rcases (by omega : K = 1 ∨ K = 2 ∨ K = 3) with rfl | rfl | rfl
  · have cO : ∀ w', Pts w' A ps → Calls Try.prog 20 #[.agg #[.int .i64 1, .int .i64 R, .slice A ps.length cap], .int .i64 D] w' fun e w'' => e = .returned (.agg #[.int .i64 (ofS 1 R ps D).m, .int .i64 (ofS 1 R ps D).x, .int .i64 (ofS 1 R ps D).y, .int .i64 (ofS 1 R ps D).i]) ∧ Below w'.heap.size w' w'' := fun w' h => by
      rw [ofS_1 hv (by omega) (by omega) rfl]; exact ycir_b 1 R A cap ps D (by omega) (by omega) w' h
    clear hno hv hlen hK
    generalize ofS 1 R ps D = P at *
    go_enter Try.func10, Try.ntmps10
    go_wp2_with (first | (go_at_call 19; refine Calls.mono (gw_at (cV _ (Pts.to hp (by repeat (first | with_reducible exact Below.refl _ _ | with_reducible assumption | refine bgw ?_ (by first | (simp; done) | (simp; omega) | omega) _ | refine Below.setCell ?_ (by first | exact Nat.le_of_not_lt (by assumption) | (simp; done) | (simp; omega) | omega) _ | refine Below.alloc ?_ (by first | (simp; done) | (simp; omega) | omega) _ | refine Below.drew ?_))))) ?_; rintro e w1 ⟨rfl, q, rfl⟩) | (go_at_call 20; refine Calls.mono (gw_at (cO _ (Pts.to hp (by repeat (first | with_reducible exact Below.refl _ _ | with_reducible assumption | refine bgw ?_ (by first | (simp; done) | (simp; omega) | omega) _ | refine Below.setCell ?_ (by first | exact Nat.le_of_not_lt (by assumption) | (simp; done) | (simp; omega) | omega) _ | refine Below.alloc ?_ (by first | (simp; done) | (simp; omega) | omega) _ | refine Below.drew ?_))))) ?_; rintro e w1 ⟨rfl, q2, rfl⟩))
    refine post_named ?_
    intro Z hZ
    have kZ : blk Z (w.heap.size + 1) #[.int .i64 P.m, .int .i64 P.x, .int .i64 P.y, .int .i64 P.i] 30 := by rw [hZ]; first | exact (by repeat (first | with_reducible exact blk_new _ _ _ | ((with_reducible refine blk_at ?_); (simp; done)) | with_reducible apply blk_alloc | with_reducible apply blk_gw | with_reducible apply blk_drew)) | exact (by apply blk_of; (repeat (first  | with_reducible apply blk_drew | with_reducible apply blk_gw | with_reducible apply blk_alloc | with_reducible apply blk_set | ((with_reducible apply blk_other); focus omega))); (first | rfl | simp))
    have hbZ : Below w.heap.size w Z := by rw [hZ]; exact (by repeat (first | with_reducible exact Below.refl _ _ | with_reducible assumption | refine bgw ?_ (by first | (simp; done) | (simp; omega) | omega) _ | refine Below.setCell ?_ (by first | exact Nat.le_of_not_lt (by assumption) | (simp; done) | (simp; omega) | omega) _ | refine Below.alloc ?_ (by first | (simp; done) | (simp; omega) | omega) _ | refine Below.drew ?_))
    clear hZ
    have okZ := blk_older kZ
    have ckZ_0 : _ = some _ := blk_cell kZ 0
    have ckZ_1 : _ = some _ := blk_cell kZ 1
    have ckZ_2 : _ = some _ := blk_cell kZ 2
    have ckZ_3 : _ = some _ := blk_cell kZ 3
    have fkZ_0 := blk_free kZ 0
    have fkZ_1 := blk_free kZ 1
    have fkZ_2 := blk_free kZ 2
    have fkZ_3 := blk_free kZ 3
    exact bodyPost_ret (v := .agg #[.int .i64 P.m, .int .i64 P.x, .int .i64 P.y, .int .i64 P.i]) (by simp [results, Try.results10, go_sem, ckZ_0, ckZ_1, ckZ_2, ckZ_3]) rfl ⟨rfl, hbZ⟩
  · have cO : ∀ w', Pts w' A ps → Calls Try.prog 21 #[.agg #[.int .i64 2, .int .i64 R, .slice A ps.length cap], .int .i64 D] w' fun e w'' => e = .returned (.agg #[.int .i64 (ofS 2 R ps D).m, .int .i64 (ofS 2 R ps D).x, .int .i64 (ofS 2 R ps D).y, .int .i64 (ofS 2 R ps D).i]) ∧ Below w'.heap.size w' w'' := fun w' h => by
      rw [ofS_2 hv (by omega) (by omega) rfl]; exact ycap_b 2 R A cap ps D (by have := hlen.2.2.2.1 rfl; omega) (by omega) w' h
    clear hno hv hlen hK
    generalize ofS 2 R ps D = P at *
    go_enter Try.func10, Try.ntmps10
    go_wp2_with (first | (go_at_call 19; refine Calls.mono (gw_at (cV _ (Pts.to hp (by repeat (first | with_reducible exact Below.refl _ _ | with_reducible assumption | refine bgw ?_ (by first | (simp; done) | (simp; omega) | omega) _ | refine Below.setCell ?_ (by first | exact Nat.le_of_not_lt (by assumption) | (simp; done) | (simp; omega) | omega) _ | refine Below.alloc ?_ (by first | (simp; done) | (simp; omega) | omega) _ | refine Below.drew ?_))))) ?_; rintro e w1 ⟨rfl, q, rfl⟩) | (go_at_call 21; refine Calls.mono (gw_at (cO _ (Pts.to hp (by repeat (first | with_reducible exact Below.refl _ _ | with_reducible assumption | refine bgw ?_ (by first | (simp; done) | (simp; omega) | omega) _ | refine Below.setCell ?_ (by first | exact Nat.le_of_not_lt (by assumption) | (simp; done) | (simp; omega) | omega) _ | refine Below.alloc ?_ (by first | (simp; done) | (simp; omega) | omega) _ | refine Below.drew ?_))))) ?_; rintro e w1 ⟨rfl, q2, rfl⟩))
    refine post_named ?_
    intro Z hZ
    have kZ : blk Z (w.heap.size + 1) #[.int .i64 P.m, .int .i64 P.x, .int .i64 P.y, .int .i64 P.i] 30 := by rw [hZ]; first | exact (by repeat (first | with_reducible exact blk_new _ _ _ | ((with_reducible refine blk_at ?_); (simp; done)) | with_reducible apply blk_alloc | with_reducible apply blk_gw | with_reducible apply blk_drew)) | exact (by apply blk_of; (repeat (first  | with_reducible apply blk_drew | with_reducible apply blk_gw | with_reducible apply blk_alloc | with_reducible apply blk_set | ((with_reducible apply blk_other); focus omega))); (first | rfl | simp))
    have hbZ : Below w.heap.size w Z := by rw [hZ]; exact (by repeat (first | with_reducible exact Below.refl _ _ | with_reducible assumption | refine bgw ?_ (by first | (simp; done) | (simp; omega) | omega) _ | refine Below.setCell ?_ (by first | exact Nat.le_of_not_lt (by assumption) | (simp; done) | (simp; omega) | omega) _ | refine Below.alloc ?_ (by first | (simp; done) | (simp; omega) | omega) _ | refine Below.drew ?_))
    clear hZ
    have okZ := blk_older kZ
    have ckZ_0 : _ = some _ := blk_cell kZ 0
    have ckZ_1 : _ = some _ := blk_cell kZ 1
    have ckZ_2 : _ = some _ := blk_cell kZ 2
    have ckZ_3 : _ = some _ := blk_cell kZ 3
    have fkZ_0 := blk_free kZ 0
    have fkZ_1 := blk_free kZ 1
    have fkZ_2 := blk_free kZ 2
    have fkZ_3 := blk_free kZ 3
    exact bodyPost_ret (v := .agg #[.int .i64 P.m, .int .i64 P.x, .int .i64 P.y, .int .i64 P.i]) (by simp [results, Try.results10, go_sem, ckZ_0, ckZ_1, ckZ_2, ckZ_3]) rfl ⟨rfl, hbZ⟩
  · have cO : ∀ w', Pts w' A ps → Calls Try.prog 22 #[.agg #[.int .i64 3, .int .i64 R, .slice A ps.length cap], .int .i64 D] w' fun e w'' => e = .returned (.agg #[.int .i64 (ofS 3 R ps D).m, .int .i64 (ofS 3 R ps D).x, .int .i64 (ofS 3 R ps D).y, .int .i64 (ofS 3 R ps D).i]) ∧ Below w'.heap.size w' w'' := fun w' h => by
      rw [ofS_3 hv (by omega) (by omega) rfl]; exact ypol_b 3 R A cap ps D hlen.2.1 w' h hk
    clear hno hv hlen hK
    generalize ofS 3 R ps D = P at *
    go_enter Try.func10, Try.ntmps10
    go_wp2_with (first | (go_at_call 19; refine Calls.mono (gw_at (cV _ (Pts.to hp (by repeat (first | with_reducible exact Below.refl _ _ | with_reducible assumption | refine bgw ?_ (by first | (simp; done) | (simp; omega) | omega) _ | refine Below.setCell ?_ (by first | exact Nat.le_of_not_lt (by assumption) | (simp; done) | (simp; omega) | omega) _ | refine Below.alloc ?_ (by first | (simp; done) | (simp; omega) | omega) _ | refine Below.drew ?_))))) ?_; rintro e w1 ⟨rfl, q, rfl⟩) | (go_at_call 22; refine Calls.mono (gw_at (cO _ (Pts.to hp (by repeat (first | with_reducible exact Below.refl _ _ | with_reducible assumption | refine bgw ?_ (by first | (simp; done) | (simp; omega) | omega) _ | refine Below.setCell ?_ (by first | exact Nat.le_of_not_lt (by assumption) | (simp; done) | (simp; omega) | omega) _ | refine Below.alloc ?_ (by first | (simp; done) | (simp; omega) | omega) _ | refine Below.drew ?_))))) ?_; rintro e w1 ⟨rfl, q2, rfl⟩))
    refine post_named ?_
    intro Z hZ
    have kZ : blk Z (w.heap.size + 1) #[.int .i64 P.m, .int .i64 P.x, .int .i64 P.y, .int .i64 P.i] 30 := by rw [hZ]; first | exact (by repeat (first | with_reducible exact blk_new _ _ _ | ((with_reducible refine blk_at ?_); (simp; done)) | with_reducible apply blk_alloc | with_reducible apply blk_gw | with_reducible apply blk_drew)) | exact (by apply blk_of; (repeat (first  | with_reducible apply blk_drew | with_reducible apply blk_gw | with_reducible apply blk_alloc | with_reducible apply blk_set | ((with_reducible apply blk_other); focus omega))); (first | rfl | simp))
    have hbZ : Below w.heap.size w Z := by rw [hZ]; exact (by repeat (first | with_reducible exact Below.refl _ _ | with_reducible assumption | refine bgw ?_ (by first | (simp; done) | (simp; omega) | omega) _ | refine Below.setCell ?_ (by first | exact Nat.le_of_not_lt (by assumption) | (simp; done) | (simp; omega) | omega) _ | refine Below.alloc ?_ (by first | (simp; done) | (simp; omega) | omega) _ | refine Below.drew ?_))
    clear hZ
    have okZ := blk_older kZ
    have ckZ_0 : _ = some _ := blk_cell kZ 0
    have ckZ_1 : _ = some _ := blk_cell kZ 1
    have ckZ_2 : _ = some _ := blk_cell kZ 2
    have ckZ_3 : _ = some _ := blk_cell kZ 3
    have fkZ_0 := blk_free kZ 0
    have fkZ_1 := blk_free kZ 1
    have fkZ_2 := blk_free kZ 2
    have fkZ_3 := blk_free kZ 3
    exact bodyPost_ret (v := .agg #[.int .i64 P.m, .int .i64 P.x, .int .i64 P.y, .int .i64 P.i]) (by simp [results, Try.results10, go_sem, ckZ_0, ckZ_1, ckZ_2, ckZ_3]) rfl ⟨rfl, hbZ⟩

end Go.Proofs.Ytelmmjejgolefaa
