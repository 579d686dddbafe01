/- Laws of chapter 16: ManifoldPoints. -/
import Derived.Test.YtiecpebckmihgaaGreatMnL
import Derived.Test.YtiecpebckmihgaaGreatMnU
set_option linter.unusedVariables false
namespace Go.Proofs.YtiecpebckmihgaaGreat
open Go.RowKit Fx

theorem edge_ok (Ka Ra Kb Rb : Int) (ps qs : List (Int × Int)) (px py pa qx qy qa : Int) (v1 : valS Ka Ra ps = 0) (v2 : valS Kb Rb qs = 0) (_ : Ka = 3 ∨ Kb = 3) (kb : Kb ≠ 1) (ka : Ka ≠ 1) (A1 : Option Addr) (c1 : Nat) (A2 : Option Addr) (c2 : Nat) (w' : World) (h1 : Pts w' A1 (ps.map (tr px py pa))) (h2 : Pts w' A2 (qs.map (tr qx qy qa))) : Calls Tryz.prog 45 #[.agg #[.int .i64 Ka, .slice A1 ps.length c1, .int .i64 Ra], .agg #[.int .i64 Kb, .slice A2 qs.length c2, .int .i64 Rb]] w' (MnR w' (facesM (ps.map (tr px py pa)) Ra (qs.map (tr qx qy qa)) Rb)) := by
  have n1 := val_len v1
  have n2 := val_len v2
  have k1 := (valS_zero.1 v1).1
  have k2 := (valS_zero.1 v2).1
  have l1 : 2 ≤ ps.length := by
    rcases (show Ka = 2 ∨ Ka = 3 by omega) with h | h
    · have := n1.2.2.2.1 h; omega
    · have := n1.2.2.2.2 h; omega
  have l2 : 2 ≤ qs.length := by
    rcases (show Kb = 2 ∨ Kb = 3 by omega) with h | h
    · have := n2.2.2.2.1 h; omega
    · have := n2.2.2.2.2 h; omega
  have h := medge_b Ka Ra Kb Rb A1 A2 c1 c2 (ps.map (tr px py pa)) (qs.map (tr qx qy qa)) (by rw [List.length_map]; omega) (by rw [List.length_map]; omega) (by rw [List.length_map]; omega) (by rw [List.length_map]; omega) w' h1 h2
  rw [List.length_map, List.length_map] at h
  exact h

theorem col_bad {K R : Int} {ps : List Pt} {px py pa K' R' : Int} {qs : List Pt} {qx qy qa : Int} (h : (col K R ps px py pa K' R' qs qx qy qa).l ≠ []) : valS K R ps = 0 ∧ valS K' R' qs = 0 := by
  by_cases c : valS K R ps = 0 ∧ valS K' R' qs = 0
  · exact c
  · unfold col at h; rw [if_neg c] at h; exact absurd rfl h

set_option maxRecDepth 100000 in
set_option maxHeartbeats 16000000 in
theorem walk_ManifoldPoints (K R : Int) (A : Option Addr) (cap : Nat) (ps : List (Int × Int)) (px py pa : Int) (K2 R2 : Int) (B_ : Option Addr) (cap2 : Nat) (qs : List (Int × Int)) (qx qy qa : Int) (w : World) (hp : Pts w A ps) (hl : ps.length ≤ cap) (hc : cap ≤ maxLen) (hq : Pts w B_ qs) (hm : qs.length ≤ cap2) (hc2 : cap2 ≤ maxLen) : Calls Tryz.prog 3 #[.agg #[.int .i64 K, .int .i64 R, .slice A ps.length cap], .agg #[.int .i64 px, .int .i64 py, .int .i64 pa], .agg #[.int .i64 K2, .int .i64 R2, .slice B_ qs.length cap2], .agg #[.int .i64 qx, .int .i64 qy, .int .i64 qa]] w fun e w' => e = .returned (.bool true) ∧ Below w.heap.size w w' := by
  have e0 := example16_b
  have cW := fun w' => few_b K R K2 R2 A B_ cap cap2 ps qs w'
  by_cases hf : ps.length ≤ 20 ∧ qs.length ≤ 20
  rotate_left
  focus
    rw [decide_eq_false hf] at cW
    go_enter Tryz.func3, Tryz.ntmps3
    go_wp2_with (first | (go_at_call 6; refine Calls.mono (gw_at (cW _)) ?_; rintro e w1 ⟨rfl, q, rfl⟩) | (go_at_call 7; refine Calls.mono (gw_at (e0 _)) ?_; rintro e w1 ⟨rfl, q, rfl⟩))
    go_ret
    exact ⟨rfl, (by repeat (first | with_reducible exact Below.refl _ _ | with_reducible assumption | refine bgw ?_ (by first | (simp; done) | (simp; omega) | omega) _ | refine Below.setCell ?_ (by first | exact Nat.le_of_not_lt (by assumption) | (simp; done) | (simp; omega) | omega) _ | refine Below.alloc ?_ (by first | (simp; done) | (simp; omega) | omega) _ | refine Below.drew ?_))⟩
  rw [decide_eq_true hf] at cW
  have cX := fun w' h1 h2 => mnt_ex (mcol_b K R K2 R2 A B_ cap cap2 ps qs px py pa qx qy qa (by omega) (by omega) hl hm (edge_ok K R K2 R2 ps qs px py pa qx qy qa) w' h1 h2)
  have hok := ok_col K R ps px py pa K2 R2 qs qx qy qa
  have hz := col_nz K R ps px py pa K2 R2 qs qx qy qa
  have hv := fun h => col_bad (K := K) (R := R) (ps := ps) (px := px) (py := py) (pa := pa) (K' := K2) (R' := R2) (qs := qs) (qx := qx) (qy := qy) (qa := qa) h
  have cV := fun w' h => rval_b K R A cap ps (by omega) w' h
  have cU := fun w' h => rval_b K2 R2 B_ cap2 qs (by omega) w' h
  generalize col K R ps px py pa K2 R2 qs qx qy qa = N at *
  obtain ⟨nx, ny, l⟩ := N
  by_cases hl0 : l = []
  · subst hl0
    rw [nz_nil rfl] at hz
    injection hz with z1 z2 z3
    subst z1 z2
    clear z3 hv hok cV cU hf
    have cX2 : ∀ w', Pts w' A ps → Pts w' B_ qs → Calls Tryz.prog 8 #[.agg #[.int .i64 K, .int .i64 R, .slice A ps.length cap], .agg #[.int .i64 px, .int .i64 py, .int .i64 pa], .agg #[.int .i64 K2, .int .i64 R2, .slice B_ qs.length cap2], .agg #[.int .i64 qx, .int .i64 qy, .int .i64 qa]] w' fun e w'' => (∃ A' cap', e = .returned (.tuple #[.agg #[.int .i64 0, .int .i64 0, .slice A' 0 cap'], .bool false])) ∧ ∃ q, w'' = gw w' q := fun w' h1 h2 => (cX w' h1 h2).mono fun e w'' ⟨⟨A', cap', h1, _⟩, h3⟩ => ⟨⟨A', cap', h1⟩, h3⟩
    clear cX
    go_enter Tryz.func3, Tryz.ntmps3
    go_wp2_with (first | (go_at_call 6; refine Calls.mono (gw_at (cW _)) ?_; rintro e w1 ⟨rfl, q, rfl⟩) | (go_at_call 8; refine Calls.mono (cX2 _ (Pts.to hp (by repeat (first | with_reducible exact Below.refl _ _ | with_reducible assumption | refine bgw ?_ (by first | (simp; done) | (simp; omega) | omega) _ | refine Below.setCell ?_ (by first | exact Nat.le_of_not_lt (by assumption) | (simp; done) | (simp; omega) | omega) _ | refine Below.alloc ?_ (by first | (simp; done) | (simp; omega) | omega) _ | refine Below.drew ?_))) (Pts.to hq (by repeat (first | with_reducible exact Below.refl _ _ | with_reducible assumption | refine bgw ?_ (by first | (simp; done) | (simp; omega) | omega) _ | refine Below.setCell ?_ (by first | exact Nat.le_of_not_lt (by assumption) | (simp; done) | (simp; omega) | omega) _ | refine Below.alloc ?_ (by first | (simp; done) | (simp; omega) | omega) _ | refine Below.drew ?_)))) ?_; rintro e w1 ⟨⟨A5, c5, rfl⟩, q5, rfl⟩) | (go_at_call 7; refine Calls.mono (gw_at (e0 _)) ?_; rintro e w1 ⟨rfl, q, rfl⟩))
    go_ret
    exact ⟨rfl, (by repeat (first | with_reducible exact Below.refl _ _ | with_reducible assumption | refine bgw ?_ (by first | (simp; done) | (simp; omega) | omega) _ | refine Below.setCell ?_ (by first | exact Nat.le_of_not_lt (by assumption) | (simp; done) | (simp; omega) | omega) _ | refine Below.alloc ?_ (by first | (simp; done) | (simp; omega) | omega) _ | refine Below.drew ?_))⟩
  obtain ⟨v1, v2⟩ := hv hl0
  rw [v1] at cV
  rw [v2] at cU
  have hlen : 1 ≤ l.length ∧ l.length ≤ 2 := by
    rcases hok.2 with h | ⟨c, h⟩ | ⟨c, d, h, _⟩ <;> (dsimp only at h; first | exact absurd h hl0 | (rw [h]; simp))
  have hall : ∀ k (h : k < l.length), ¬ 1024 < l[k].sep ∧ (l[k].ni != 0) = false ∧ (l[k].ti != 0) = false := fun k h => by
    obtain ⟨a, b, c⟩ := hok.1 l[k] (List.getElem_mem h)
    exact ⟨by omega, by rw [b]; rfl, by rw [c]; rfl⟩
  have hids : (h : 1 < l.length) → (l[0].id != l[1].id) = true := fun h => by
    rcases hok.2 with h' | ⟨c, h'⟩ | ⟨c, d, h', hn⟩
    · exact absurd h' hl0
    · dsimp only at h'; subst h'; simp at h
    · dsimp only at h'; subst h'; simpa using hn
  have cX2 : ∀ w', Pts w' A ps → Pts w' B_ qs → Calls Tryz.prog 8 #[.agg #[.int .i64 K, .int .i64 R, .slice A ps.length cap], .agg #[.int .i64 px, .int .i64 py, .int .i64 pa], .agg #[.int .i64 K2, .int .i64 R2, .slice B_ qs.length cap2], .agg #[.int .i64 qx, .int .i64 qy, .int .i64 qa]] w' fun e w'' => (∃ A' cap', e = .returned (.tuple #[.agg #[.int .i64 nx, .int .i64 ny, .slice A' l.length cap'], .bool true]) ∧ Cnts w'' A' l) ∧ ∃ q, w'' = gw w' q := fun w' h1 h2 => (cX w' h1 h2).mono fun e w'' ⟨⟨A', cap', h1, _, _, _, h2⟩, h3⟩ => ⟨⟨A', cap', by rw [h1]; dsimp only; rw [decide_eq_true hl0], h2⟩, h3⟩
  clear cX hv hz hok hl0 hf v1 v2
  have n1 : ¬ (l.length : Int) < 1 := by omega
  have n2 : ¬ 2 < (l.length : Int) := by omega
  obtain ⟨hn1, hn2⟩ := hlen
  go_enter Tryz.func3, Tryz.ntmps3
  go_upto_region 4 with (first | (go_at_call 6; refine Calls.mono (gw_at (cW _)) ?_; rintro e w1 ⟨rfl, q, rfl⟩) | (go_at_call 8; refine Calls.mono (cX2 _ (Pts.to hp (by repeat (first | with_reducible exact Below.refl _ _ | with_reducible assumption | refine bgw ?_ (by first | (simp; done) | (simp; omega) | omega) _ | refine Below.setCell ?_ (by first | exact Nat.le_of_not_lt (by assumption) | (simp; done) | (simp; omega) | omega) _ | refine Below.alloc ?_ (by first | (simp; done) | (simp; omega) | omega) _ | refine Below.drew ?_))) (Pts.to hq (by repeat (first | with_reducible exact Below.refl _ _ | with_reducible assumption | refine bgw ?_ (by first | (simp; done) | (simp; omega) | omega) _ | refine Below.setCell ?_ (by first | exact Nat.le_of_not_lt (by assumption) | (simp; done) | (simp; omega) | omega) _ | refine Below.alloc ?_ (by first | (simp; done) | (simp; omega) | omega) _ | refine Below.drew ?_)))) ?_; rintro e w1 ⟨⟨A5, c5, rfl, hP5⟩, q5, rfl⟩))
  refine wp_named ?_
  intro W hW
  have kA : blk W w.heap.size #[.int .i64 K, .int .i64 R, .slice A ps.length cap] 25 := by rw [hW]; exact (by repeat (first | with_reducible exact blk_new _ _ _ | ((with_reducible refine blk_at ?_); (simp; done)) | with_reducible apply blk_alloc | with_reducible apply blk_gw | with_reducible apply blk_drew))
  have kB : blk W (w.heap.size + 2) #[.int .i64 K2, .int .i64 R2, .slice B_ qs.length cap2] 25 := by rw [hW]; exact (by repeat (first | with_reducible exact blk_new _ _ _ | ((with_reducible refine blk_at ?_); (simp; done)) | with_reducible apply blk_alloc | with_reducible apply blk_gw | with_reducible apply blk_drew))
  have kM : blk W (w.heap.size + 1 + 1 + 1 + 1 + q.os.size + q5.os.size) #[.int .i64 nx, .int .i64 ny, .slice A5 l.length c5] 34 := by rw [hW]; exact (by repeat (first | with_reducible exact blk_new _ _ _ | ((with_reducible refine blk_at ?_); (simp; done)) | with_reducible apply blk_alloc | with_reducible apply blk_gw | with_reducible apply blk_drew))
  have hbW : Below w.heap.size w W := by rw [hW]; exact (by repeat (first | with_reducible exact Below.refl _ _ | with_reducible assumption | refine bgw ?_ (by first | (simp; done) | (simp; omega) | omega) _ | refine Below.setCell ?_ (by first | exact Nat.le_of_not_lt (by assumption) | (simp; done) | (simp; omega) | omega) _ | refine Below.alloc ?_ (by first | (simp; done) | (simp; omega) | omega) _ | refine Below.drew ?_))
  have hPW : Cnts W A5 l := by rw [hW]; exact Cnts.to hP5 (by repeat (first | with_reducible exact Below.refl _ _ | with_reducible assumption | refine bgw ?_ (by first | (simp; done) | (simp; omega) | omega) _ | refine Below.setCell ?_ (by first | exact Nat.le_of_not_lt (by assumption) | (simp; done) | (simp; omega) | omega) _ | refine Below.alloc ?_ (by first | (simp; done) | (simp; omega) | omega) _ | refine Below.drew ?_))
  clear hW hP5 cX2 cW
  generalize w.heap.size + 1 + 1 + 1 + 1 + q.os.size + q5.os.size = M at *
  have hszW := hbW.size
  have hpW := Pts.to hp hbW
  have hqW := Pts.to hq hbW
  obtain ⟨b5, o5, rfl, hc5⟩ := cnts_open hPW (by omega)
  have okA := blk_older kA
  have ckA_0 : _ = some _ := blk_cell kA 0
  have ckA_1 : _ = some _ := blk_cell kA 1
  have ckA_2 : _ = some _ := blk_cell kA 2
  have fkA_0 := blk_free kA 0
  have fkA_1 := blk_free kA 1
  have fkA_2 := blk_free kA 2
  have okB := blk_older kB
  have ckB_0 : _ = some _ := blk_cell kB 0
  have ckB_1 : _ = some _ := blk_cell kB 1
  have ckB_2 : _ = some _ := blk_cell kB 2
  have fkB_0 := blk_free kB 0
  have fkB_1 := blk_free kB 1
  have fkB_2 := blk_free kB 2
  have okM := blk_older kM
  have ckM_0 : _ = some _ := blk_cell kM 0
  have ckM_1 : _ = some _ := blk_cell kM 1
  have ckM_2 : _ = some _ := blk_cell kM 2
  have fkM_0 := blk_free kM 0
  have fkM_1 := blk_free kM 1
  have fkM_2 := blk_free kM 2
  go_wp2_with (first | (go_at_call 9; (with_reducible show Calls _ _ #[.agg #[.int .i64 K, _, .slice A _ _]] _ _); refine Calls.mono (gw_at (cV _ (Pts.to hpW (by repeat (first | with_reducible exact Below.refl _ _ | with_reducible assumption | refine bgw ?_ (by first | (simp; done) | (simp; omega) | omega) _ | refine Below.setCell ?_ (by first | exact Nat.le_of_not_lt (by assumption) | (simp; done) | (simp; omega) | omega) _ | refine Below.alloc ?_ (by first | (simp; done) | (simp; omega) | omega) _ | refine Below.drew ?_))))) ?_; rintro e w1 ⟨rfl, q7, rfl⟩) | (go_at_call 9; (with_reducible show Calls _ _ #[.agg #[.int .i64 K2, _, .slice B_ _ _]] _ _); refine Calls.mono (gw_at (cU _ (Pts.to hqW (by repeat (first | with_reducible exact Below.refl _ _ | with_reducible assumption | refine bgw ?_ (by first | (simp; done) | (simp; omega) | omega) _ | refine Below.setCell ?_ (by first | exact Nat.le_of_not_lt (by assumption) | (simp; done) | (simp; omega) | omega) _ | refine Below.alloc ?_ (by first | (simp; done) | (simp; omega) | omega) _ | refine Below.drew ?_))))) ?_; rintro e w1 ⟨rfl, q8, rfl⟩))
  refine wp_named ?_
  intro V hV
  have hbV : Below W.heap.size W V := by rw [hV]; exact (by repeat (first | with_reducible exact Below.refl _ _ | with_reducible assumption | refine bgw ?_ (by first | (simp; done) | (simp; omega) | omega) _ | refine Below.setCell ?_ (by first | exact Nat.le_of_not_lt (by assumption) | (simp; done) | (simp; omega) | omega) _ | refine Below.alloc ?_ (by first | (simp; done) | (simp; omega) | omega) _ | refine Below.drew ?_))
  have kM1 := blk_below hbV kM
  have hbV2 : Below w.heap.size w V := Below.trans hbW (hbV.mono hszW)
  clear hV okA ckA_0 ckA_1 ckA_2 fkA_0 fkA_1 fkA_2 okB ckB_0 ckB_1 ckB_2 fkB_0 fkB_1 fkB_2 okM ckM_0 ckM_1 ckM_2 fkM_0 fkM_1 fkM_2 kA kB kM cV cU hpW hqW hp hq
  have hszV := hbV2.size
  go_loopw [11] (fun ic wr => ∃ (k : Nat), k ≤ l.length ∧ ic = .int .i64 (k : Int) ∧ wr = V)
    (fun ic _ => (l.length - intOf ic).toNat)
  case atStart => exact ⟨0, by omega, rfl, rfl⟩
  case round =>
    obtain ⟨k, hk, rfl, rfl⟩ := hrel
    have k0 : (0 : Int) ≤ (k : Int) := by omega
    by_cases hlt : k < l.length
    · have k1 : (k : Int) < (l.length : Int) := by omega
      obtain ⟨-, -, g2, -, g4, g5⟩ := hc5 k hlt wr hbV
      obtain ⟨a1, a2, a3⟩ := hall k hlt
      have og := older_of_cell g2
      clear hc5 hall hids
      generalize l[k].sep = s1 at *
      generalize l[k].ni = s2 at *
      generalize l[k].ti = s3 at *
      have okM1 := blk_older kM1
      have ckM1_0 : _ = some _ := blk_cell kM1 0
      have ckM1_1 : _ = some _ := blk_cell kM1 1
      have ckM1_2 : _ = some _ := blk_cell kM1 2
      have fkM1_0 := blk_free kM1 0
      have fkM1_1 := blk_free kM1 1
      have fkM1_2 := blk_free kM1 2
      go_wp2_with fail
      exact ⟨⟨k + 1, by omega, by go_num, by first | trivial | rfl⟩, by (try go_num); simp [intOf]; (try omega)⟩
    · obtain rfl : k = l.length := by omega
      have k1 : ¬ (l.length : Int) < (l.length : Int) := by omega
      have okM1 := blk_older kM1
      have ckM1_0 : _ = some _ := blk_cell kM1 0
      have ckM1_1 : _ = some _ := blk_cell kM1 1
      have ckM1_2 : _ = some _ := blk_cell kM1 2
      have fkM1_0 := blk_free kM1 0
      have fkM1_1 := blk_free kM1 1
      have fkM1_2 := blk_free kM1 2
      by_cases h1 : l.length = 1
      · have e1 : ((l.length : Int) == 1) = true := by rw [h1]; rfl
        clear h1
        go_upto_region 13 with fail
        refine wp_mix 21 [0, 1, 3, 7, 15, 31, 63, 127, 255, 511, 31, 1055, 3103, 7199, 15391, 32767, 65535, 131071, 262143, 524287, 1048575] [] [0, 1, 2, 3, 4, 5, 6, 7, 8, 9, 10, 11, 12, 13, 14, 15, 16, 17, 18, 19, 20] (by kernel_rfl) (by kernel_rfl) ?_
        repeat (first | (refine mix_skip (by rfl) (by rfl) (by rfl) (by rfl) ?_) | (refine mix_early (by rfl) (by rfl) (by rfl) ?_; go_big_quiet_step (fail); with_reducible refine wpQuiet_nil ?_) | (refine mix_late (by rfl) (by rfl) (by rfl) ?_; go_big_quiet_step (fail); with_reducible refine wpQuiet_nil ?_) | (refine mix_call (by rfl) (by rfl) (by rfl) ?_; intro pM Qs hQs; go_wp2_with (go_at_call 7; refine Calls.mono (gw_at (e0 _)) ?_; rintro e w1 ⟨rfl, q9, rfl⟩); refine hQs _ _ (by repeat (first | with_reducible exact Below.refl _ _ | with_reducible assumption | refine bgw ?_ (by first | (simp; done) | (simp; omega) | omega) _ | refine Below.setCell ?_ (by first | exact Nat.le_of_not_lt (by assumption) | (simp; done) | (simp; omega) | omega) _ | refine Below.alloc ?_ (by first | (simp; done) | (simp; omega) | omega) _ | refine Below.drew ?_)) ?_))
        refine mix_end ?_
        intro pE
        simp only [List.drop_succ_cons, List.drop_zero]
        go_wp2_with fail
        go_ret
        exact ⟨rfl, (by repeat (first | with_reducible exact Below.refl _ _ | with_reducible assumption | refine bgw ?_ (by first | (simp; done) | (simp; omega) | omega) _ | refine Below.setCell ?_ (by first | exact Nat.le_of_not_lt (by assumption) | (simp; done) | (simp; omega) | omega) _ | refine Below.alloc ?_ (by first | (simp; done) | (simp; omega) | omega) _ | refine Below.drew ?_))⟩
      · have e1 : ((l.length : Int) == 1) = false := by rw [beq_eq_false_iff_ne]; omega
        have hi := hids (by omega)
        obtain ⟨-, -, -, g0, -, -⟩ := hc5 0 (by omega) wr hbV
        obtain ⟨-, -, -, g1, -, -⟩ := hc5 1 (by omega) wr hbV
        rw [Nat.zero_mul, Nat.add_zero] at g0
        rw [Nat.one_mul] at g1
        have og := older_of_cell g0
        have l1 : (1 : Int) < (l.length : Int) := by omega
        clear hc5 hall hids
        generalize l[0].id = i0 at *
        generalize l[1].id = i1 at *
        go_upto_region 13 with fail
        refine wp_mix 21 [0, 1, 3, 7, 15, 31, 63, 127, 255, 511, 31, 1055, 3103, 7199, 15391, 32767, 65535, 131071, 262143, 524287, 1048575] [] [0, 1, 2, 3, 4, 5, 6, 7, 8, 9, 10, 11, 12, 13, 14, 15, 16, 17, 18, 19, 20] (by kernel_rfl) (by kernel_rfl) ?_
        repeat (first | (refine mix_skip (by rfl) (by rfl) (by rfl) (by rfl) ?_) | (refine mix_early (by rfl) (by rfl) (by rfl) ?_; go_big_quiet_step (fail); with_reducible refine wpQuiet_nil ?_) | (refine mix_late (by rfl) (by rfl) (by rfl) ?_; go_big_quiet_step (fail); with_reducible refine wpQuiet_nil ?_) | (refine mix_call (by rfl) (by rfl) (by rfl) ?_; intro pM Qs hQs; go_wp2_with (go_at_call 7; refine Calls.mono (gw_at (e0 _)) ?_; rintro e w1 ⟨rfl, q9, rfl⟩); refine hQs _ _ (by repeat (first | with_reducible exact Below.refl _ _ | with_reducible assumption | refine bgw ?_ (by first | (simp; done) | (simp; omega) | omega) _ | refine Below.setCell ?_ (by first | exact Nat.le_of_not_lt (by assumption) | (simp; done) | (simp; omega) | omega) _ | refine Below.alloc ?_ (by first | (simp; done) | (simp; omega) | omega) _ | refine Below.drew ?_)) ?_))
        refine mix_end ?_
        intro pE
        simp only [List.drop_succ_cons, List.drop_zero]
        go_wp2_with fail
        go_ret
        exact ⟨rfl, (by repeat (first | with_reducible exact Below.refl _ _ | with_reducible assumption | refine bgw ?_ (by first | (simp; done) | (simp; omega) | omega) _ | refine Below.setCell ?_ (by first | exact Nat.le_of_not_lt (by assumption) | (simp; done) | (simp; omega) | omega) _ | refine Below.alloc ?_ (by first | (simp; done) | (simp; omega) | omega) _ | refine Below.drew ?_))⟩

end Go.Proofs.YtiecpebckmihgaaGreat
