/- Laws of chapter 15: the example, ClipKeeps, ClipVertexIDs, ClipHalfPlaneExact. -/
import Derived.Test.YtiahkaonbkmffaaFixRP
set_option linter.unusedVariables false
namespace Go.Proofs.Ytiahkaonbkmffaa
open Go.RowKit Fx

theorem vts_lit {w : World} {b : Nat} {t : TypeId} {l : List Vtx} (h : blk w b (l.flatMap vtc).toArray t) : Vts w (some ⟨b, 0, none⟩) l :=
  .inr ⟨b, 0, rfl, fun i hi => ⟨vtc l[i], rfl, fun j hj => by
    rw [Nat.zero_add, blk_cell h]
    simpa using flat_get (c := vtc) (sz := 3) (fun _ => rfl) l i hi j hj, rfl⟩⟩
theorem ex15_hp : hpl [⟨-65536, 0, 4⟩, ⟨65536, 0, 5⟩] 0 0 65536 0 = [⟨-65536, 0, 4⟩, ⟨0, 0, 5⟩] := by decide +kernel

/-- HalfPlane of a slice that has been made of two vertices. -/
theorem half_blk (vx vy vi ux uy ui ox oy nx ny : Int) {R : List Vtx} (hR : hpl [⟨vx, vy, vi⟩, ⟨ux, uy, ui⟩] ox oy nx ny = R) (b : Nat) (w : World) (h : blk w b #[.int .i64 vx, .int .i64 vy, .int .i64 vi, .int .i64 ux, .int .i64 uy, .int .i64 ui] 34) : Calls Try.prog 12 #[.slice (some ⟨b, 0, none⟩) 2 2, .agg #[.int .i64 ox, .int .i64 oy], .agg #[.int .i64 nx, .int .i64 ny]] w fun e w' => (∃ A' cap', e = .returned (.slice A' R.length cap') ∧ R.length ≤ cap' ∧ cap' ≤ maxLen ∧ Vts w' A' R ∧ (A' = none → cap' = 0)) ∧ ∃ q, w' = gw w q := by
  subst hR
  exact vtxr_ex (yhalf_b (some ⟨b, 0, none⟩) 2 [⟨vx, vy, vi⟩, ⟨ux, uy, ui⟩] ox oy nx ny w (vts_two h))

set_option maxHeartbeats 2000000 in
theorem example15_b (w : World) : Calls Try.prog 8 #[] w fun e w' => e = .returned (.bool true) ∧ Below w.heap.size w w' := by
  have cH := fun b w' h => half_blk (-65536) 0 4 65536 0 5 0 0 65536 0 ex15_hp b w' h
  go_enter Try.func8, Try.ntmps8
  go_wp2_with (go_at_call 12; refine Calls.mono (cH _ _ (by repeat (first | with_reducible exact blk_new _ _ _ | ((with_reducible refine blk_at ?_); (simp; done)) | with_reducible apply blk_alloc | with_reducible apply blk_gw | with_reducible apply blk_drew))) ?_; rintro e w1 ⟨⟨A1, k1, rfl, hle1, hmx1, hV1, hnil1⟩, q1, rfl⟩; obtain ⟨b5, o5, rfl, hc5⟩ := vts_cells hV1; obtain ⟨d0, d1, d2, d3, d4, d5⟩ := hc5 _ (Below.refl _ _); have od := older_of_cell d0; clear hc5)
  go_ret
  exact ⟨rfl, (by repeat (first | with_reducible exact Below.refl _ _ | with_reducible assumption | refine bgw ?_ (by first | (simp; done) | (simp; omega) | omega) _ | refine Below.setCell ?_ (by first | exact Nat.le_of_not_lt (by assumption) | (simp; done) | (simp; omega) | omega) _ | refine Below.alloc ?_ (by first | (simp; done) | (simp; omega) | omega) _ | refine Below.drew ?_))⟩

theorem yeqv_b (A B_ : Option Addr) (ca cb : Nat) (l : List Vtx) (hl : l.length ≤ 4611686018427387904) (w : World) (ha : Vts w A l) (hb : Vts w B_ l) : Calls Try.prog 9 #[.slice A l.length ca, .slice B_ l.length cb] w fun e w' => e = .returned (.bool true) ∧ Below w.heap.size w w' := by
  go_enter Try.func9, Try.ntmps9
  go_wp2_with fail
  go_loopw [5] (fun i wr => ∃ k : Nat, k ≤ l.length ∧ i = .int .i64 (k : Int) ∧ ∃ p, wr = gw w p)
    (fun i _ => (l.length - intOf i).toNat)
  case atStart => exact ⟨0, by omega, rfl, ⟨⟨w.drawn, #[]⟩, (gw_zero w).symm⟩⟩
  case round =>
    obtain ⟨k, hk, rfl, p, rfl⟩ := hrel
    by_cases hlt : k < l.length
    · have j0 : (0 : Int) ≤ (k : Int) := by omega
      have j1 : (k : Int) < (l.length : Int) := by omega
      obtain ⟨b, off, hA, hc⟩ := vts_open ha (by omega)
      obtain ⟨b2, off2, hB, hc2⟩ := vts_open hb (by omega)
      subst hA hB
      obtain ⟨d0, d1, d2⟩ := hc k hlt (gw w p) (below_gw w p)
      obtain ⟨f0, f1, f2⟩ := hc2 k hlt (gw w p) (below_gw w p)
      have od := older_of_cell d0
      have of := older_of_cell f0
      clear hc hc2 ha hb
      generalize l[k].x = x at *
      generalize l[k].y = y at *
      generalize l[k].id = id at *
      go_wp2_with fail
      refine wp_region_gw (by kernel_rfl) (by kernel_rfl) ?_
      repeat (go_big_quiet_step (fail))
      refine wpQuiet_nil ?_
      intro w1 hw1
      obtain ⟨q, rfl⟩ := hw1
      go_wp2_with fail
      exact ⟨⟨k + 1, by omega, by go_num, gw_of_below (by repeat (first | with_reducible exact Below.refl _ _ | with_reducible assumption | refine bgw ?_ (by first | (simp; done) | (simp; omega) | omega) _ | refine Below.setCell ?_ (by first | exact Nat.le_of_not_lt (by assumption) | (simp; done) | (simp; omega) | omega) _ | refine Below.alloc ?_ (by first | (simp; done) | (simp; omega) | omega) _ | refine Below.drew ?_))⟩, by (try go_num); simp [intOf]; (try omega)⟩
    · obtain rfl : k = l.length := by omega
      have j1 : ¬ (l.length : Int) < (l.length : Int) := by omega
      go_wp2_with fail
      go_ret
      exact ⟨rfl, (by repeat (first | with_reducible exact Below.refl _ _ | with_reducible assumption | refine bgw ?_ (by first | (simp; done) | (simp; omega) | omega) _ | refine Below.setCell ?_ (by first | exact Nat.le_of_not_lt (by assumption) | (simp; done) | (simp; omega) | omega) _ | refine Below.alloc ?_ (by first | (simp; done) | (simp; omega) | omega) _ | refine Below.drew ?_))⟩

theorem toE_le (ps : List Pt) (i : Int) (qs : List Pt) (k : Int) : (toE ps i qs k).length ≤ 2 := by
  rcases toE_len ps i qs k with h | ⟨a, b, h, -, -⟩ <;> rw [h] <;> simp
theorem hpl_le (l : List Vtx) (ox oy nx ny : Int) : (hpl l ox oy nx ny).length ≤ 2 := by
  rcases hpl_len l ox oy nx ny with h | ⟨v, u, a, b, -, h, -, -⟩ <;> rw [h] <;> simp

set_option maxHeartbeats 4000000 in
theorem walk_ClipKeeps (A : Option Addr) (cap : Nat) (ps : List (Int × Int)) (B_ : Option Addr) (cap2 : Nat) (qs : List (Int × Int)) (i k : Int) (w : World) (hp : Pts w A ps) (hl : ps.length ≤ cap) (hc : cap ≤ maxLen) (hq : Pts w B_ qs) (hm : qs.length ≤ cap2) (hc2 : cap2 ≤ maxLen) : Calls Try.prog 3 #[.slice A ps.length cap, .slice B_ qs.length cap2, .agg #[.int .i64 i, .int .i64 k]] w fun e w' => e = .returned (.bool true) ∧ Below w.heap.size w w' := by
  have e0 := example15_b
  by_cases n1 : (12 : Int) < (ps.length : Int)
  focus
    go_enter Try.func3, Try.ntmps3
    go_wp2_with (go_at_call 8; refine Calls.mono (gw_at (e0 _)) ?_; rintro e w1 ⟨rfl, q, rfl⟩)
    go_ret
    exact ⟨rfl, (by repeat (first | with_reducible exact Below.refl _ _ | with_reducible assumption | refine bgw ?_ (by first | (simp; done) | (simp; omega) | omega) _ | refine Below.setCell ?_ (by first | exact Nat.le_of_not_lt (by assumption) | (simp; done) | (simp; omega) | omega) _ | refine Below.alloc ?_ (by first | (simp; done) | (simp; omega) | omega) _ | refine Below.drew ?_))⟩
  by_cases n2 : (12 : Int) < (qs.length : Int)
  focus
    go_enter Try.func3, Try.ntmps3
    go_wp2_with (go_at_call 8; refine Calls.mono (gw_at (e0 _)) ?_; rintro e w1 ⟨rfl, q, rfl⟩)
    go_ret
    exact ⟨rfl, (by repeat (first | with_reducible exact Below.refl _ _ | with_reducible assumption | refine bgw ?_ (by first | (simp; done) | (simp; omega) | omega) _ | refine Below.setCell ?_ (by first | exact Nat.le_of_not_lt (by assumption) | (simp; done) | (simp; omega) | omega) _ | refine Below.alloc ?_ (by first | (simp; done) | (simp; omega) | omega) _ | refine Below.drew ?_))⟩
  have cT := fun w' h1 h2 => vtxr_ex (ytoe_b A B_ cap cap2 ps qs i k (by omega) (by omega) w' h1 h2)
  have cU := fun w' h1 h2 => vtxr_ex (rtoe_b A B_ cap cap2 ps qs i k (by omega) (by omega) w' h1 h2)
  have hL := toE_le ps i qs k
  have cE := fun A1 A2 c1 c2 w' h1 h2 => yeqv_b A1 A2 c1 c2 (toE ps i qs k) (by omega) w' h1 h2
  generalize toE ps i qs k = L at *
  clear hL
  go_enter Try.func3, Try.ntmps3
  go_upto_region 3 with fail
  refine wp_named ?_
  intro W hW
  have kN : blk W w.heap.size #[.int .i64 i, .int .i64 k] 23 := by rw [hW]; exact (by repeat (first | with_reducible exact blk_new _ _ _ | ((with_reducible refine blk_at ?_); (simp; done)) | with_reducible apply blk_alloc | with_reducible apply blk_gw | with_reducible apply blk_drew))
  have hbW : Below w.heap.size w W := by rw [hW]; exact (by repeat (first | with_reducible exact Below.refl _ _ | with_reducible assumption | refine bgw ?_ (by first | (simp; done) | (simp; omega) | omega) _ | refine Below.setCell ?_ (by first | exact Nat.le_of_not_lt (by assumption) | (simp; done) | (simp; omega) | omega) _ | refine Below.alloc ?_ (by first | (simp; done) | (simp; omega) | omega) _ | refine Below.drew ?_))
  clear hW n1 n2
  have hszW := hbW.size
  have hpW := Pts.to hp hbW
  have hqW := Pts.to hq hbW
  have okN := blk_older kN
  have ckN_0 : _ = some _ := blk_cell kN 0
  have ckN_1 : _ = some _ := blk_cell kN 1
  have fkN_0 := blk_free kN 0
  have fkN_1 := blk_free kN 1
  refine wp_mix 19 [0, 0, 2, 0, 0, 16, 63, 0, 0, 256, 0, 0, 2048, 8191, 16383, 32767, 65535, 131071, 262143] [] [0, 1, 2, 3, 4, 5, 6, 7, 8, 9, 10, 11, 12, 13, 14, 15, 16, 17, 18] (by kernel_rfl) (by kernel_rfl) ?_
  repeat (first | (refine mix_skip (by rfl) (by rfl) (by rfl) (by rfl) ?_) | (refine mix_early (by rfl) (by rfl) (by rfl) ?_; go_big_quiet_step (fail); with_reducible refine wpQuiet_nil ?_) | (refine mix_late (by rfl) (by rfl) (by rfl) ?_; go_big_quiet_step (fail); with_reducible refine wpQuiet_nil ?_) | (refine mix_call (by rfl) (by rfl) (by rfl) ?_; intro pM Qs hQs; go_wp2_with (first | (go_at_call 10; refine Calls.mono (cT _ (Pts.to hpW (by repeat (first | with_reducible exact Below.refl _ _ | with_reducible assumption | refine bgw ?_ (by first | (simp; done) | (simp; omega) | omega) _ | refine Below.setCell ?_ (by first | exact Nat.le_of_not_lt (by assumption) | (simp; done) | (simp; omega) | omega) _ | refine Below.alloc ?_ (by first | (simp; done) | (simp; omega) | omega) _ | refine Below.drew ?_))) (Pts.to hqW (by repeat (first | with_reducible exact Below.refl _ _ | with_reducible assumption | refine bgw ?_ (by first | (simp; done) | (simp; omega) | omega) _ | refine Below.setCell ?_ (by first | exact Nat.le_of_not_lt (by assumption) | (simp; done) | (simp; omega) | omega) _ | refine Below.alloc ?_ (by first | (simp; done) | (simp; omega) | omega) _ | refine Below.drew ?_)))) ?_; rintro e w1 ⟨⟨A1, k1, rfl, hle1, hmx1, hV1, hnil1⟩, q1, rfl⟩) | (go_at_call 11; refine Calls.mono (cU _ (Pts.to hpW (by repeat (first | with_reducible exact Below.refl _ _ | with_reducible assumption | refine bgw ?_ (by first | (simp; done) | (simp; omega) | omega) _ | refine Below.setCell ?_ (by first | exact Nat.le_of_not_lt (by assumption) | (simp; done) | (simp; omega) | omega) _ | refine Below.alloc ?_ (by first | (simp; done) | (simp; omega) | omega) _ | refine Below.drew ?_))) (Pts.to hqW (by repeat (first | with_reducible exact Below.refl _ _ | with_reducible assumption | refine bgw ?_ (by first | (simp; done) | (simp; omega) | omega) _ | refine Below.setCell ?_ (by first | exact Nat.le_of_not_lt (by assumption) | (simp; done) | (simp; omega) | omega) _ | refine Below.alloc ?_ (by first | (simp; done) | (simp; omega) | omega) _ | refine Below.drew ?_)))) ?_; rintro e w1 ⟨⟨A2, k2, rfl, hle2, hmx2, hV2, hnil2⟩, q2, rfl⟩) | (go_at_call 9; refine Calls.mono (gw_at (cE _ _ _ _ _ (Vts.to hV1 (by repeat (first | with_reducible exact Below.refl _ _ | with_reducible assumption | refine bgw ?_ (by first | (simp; done) | (simp; omega) | omega) _ | refine Below.setCell ?_ (by first | exact Nat.le_of_not_lt (by assumption) | (simp; done) | (simp; omega) | omega) _ | refine Below.alloc ?_ (by first | (simp; done) | (simp; omega) | omega) _ | refine Below.drew ?_))) (Vts.to hV2 (by repeat (first | with_reducible exact Below.refl _ _ | with_reducible assumption | refine bgw ?_ (by first | (simp; done) | (simp; omega) | omega) _ | refine Below.setCell ?_ (by first | exact Nat.le_of_not_lt (by assumption) | (simp; done) | (simp; omega) | omega) _ | refine Below.alloc ?_ (by first | (simp; done) | (simp; omega) | omega) _ | refine Below.drew ?_))))) ?_; rintro e w1 ⟨rfl, q3, rfl⟩) | (go_at_call 8; refine Calls.mono (gw_at (e0 _)) ?_; rintro e w1 ⟨rfl, q4, rfl⟩)); refine hQs _ _ (by repeat (first | with_reducible exact Below.refl _ _ | with_reducible assumption | refine bgw ?_ (by first | (simp; done) | (simp; omega) | omega) _ | refine Below.setCell ?_ (by first | exact Nat.le_of_not_lt (by assumption) | (simp; done) | (simp; omega) | omega) _ | refine Below.alloc ?_ (by first | (simp; done) | (simp; omega) | omega) _ | refine Below.drew ?_)) ?_))
  refine mix_end ?_
  intro pE
  simp only [List.drop_succ_cons, List.drop_zero]
  go_wp2_with fail
  go_ret
  exact ⟨rfl, (by repeat (first | with_reducible exact Below.refl _ _ | with_reducible assumption | refine bgw ?_ (by first | (simp; done) | (simp; omega) | omega) _ | refine Below.setCell ?_ (by first | exact Nat.le_of_not_lt (by assumption) | (simp; done) | (simp; omega) | omega) _ | refine Below.alloc ?_ (by first | (simp; done) | (simp; omega) | omega) _ | refine Below.drew ?_))⟩

set_option maxRecDepth 100000 in
set_option maxHeartbeats 8000000 in
theorem walk_ClipVertexIDs (A : Option Addr) (cap : Nat) (ps : List (Int × Int)) (B_ : Option Addr) (cap2 : Nat) (qs : List (Int × Int)) (i k : Int) (w : World) (hp : Pts w A ps) (hl : ps.length ≤ cap) (hc : cap ≤ maxLen) (hq : Pts w B_ qs) (hm : qs.length ≤ cap2) (hc2 : cap2 ≤ maxLen) : Calls Try.prog 5 #[.slice A ps.length cap, .slice B_ qs.length cap2, .agg #[.int .i64 i, .int .i64 k]] w fun e w' => e = .returned (.bool true) ∧ Below w.heap.size w w' := by
  have e0 := example15_b
  by_cases n1 : (12 : Int) < (ps.length : Int)
  focus
    go_enter Try.func5, Try.ntmps5
    go_wp2_with (go_at_call 8; refine Calls.mono (gw_at (e0 _)) ?_; rintro e w1 ⟨rfl, q, rfl⟩)
    go_ret
    exact ⟨rfl, (by repeat (first | with_reducible exact Below.refl _ _ | with_reducible assumption | refine bgw ?_ (by first | (simp; done) | (simp; omega) | omega) _ | refine Below.setCell ?_ (by first | exact Nat.le_of_not_lt (by assumption) | (simp; done) | (simp; omega) | omega) _ | refine Below.alloc ?_ (by first | (simp; done) | (simp; omega) | omega) _ | refine Below.drew ?_))⟩
  by_cases n2 : (12 : Int) < (qs.length : Int)
  focus
    go_enter Try.func5, Try.ntmps5
    go_wp2_with (go_at_call 8; refine Calls.mono (gw_at (e0 _)) ?_; rintro e w1 ⟨rfl, q, rfl⟩)
    go_ret
    exact ⟨rfl, (by repeat (first | with_reducible exact Below.refl _ _ | with_reducible assumption | refine bgw ?_ (by first | (simp; done) | (simp; omega) | omega) _ | refine Below.setCell ?_ (by first | exact Nat.le_of_not_lt (by assumption) | (simp; done) | (simp; omega) | omega) _ | refine Below.alloc ?_ (by first | (simp; done) | (simp; omega) | omega) _ | refine Below.drew ?_))⟩
  have cT := fun w' h1 h2 => vtxr_ex (ytoe_b A B_ cap cap2 ps qs i k (by omega) (by omega) w' h1 h2)
  by_cases hOK : eOK ps i ∧ eOK qs k
  rotate_left
  focus
    rw [toE_not hOK] at cT
    have hcs : (ps.length : Int) < 2 ∨ (¬ (ps.length : Int) < 2 ∧ (qs.length : Int) < 2) ∨ (¬ (ps.length : Int) < 2 ∧ ¬ (qs.length : Int) < 2 ∧ i < 0) ∨ (¬ (ps.length : Int) < 2 ∧ ¬ (qs.length : Int) < 2 ∧ ¬ i < 0 ∧ (ps.length : Int) ≤ i) ∨ (¬ (ps.length : Int) < 2 ∧ ¬ (qs.length : Int) < 2 ∧ ¬ i < 0 ∧ ¬ (ps.length : Int) ≤ i ∧ k < 0) ∨ (¬ (ps.length : Int) < 2 ∧ ¬ (qs.length : Int) < 2 ∧ ¬ i < 0 ∧ ¬ (ps.length : Int) ≤ i ∧ ¬ k < 0 ∧ (qs.length : Int) ≤ k) := by unfold eOK at hOK; omega
    clear hOK
    rcases hcs with c | ⟨c, d⟩ | ⟨c, d, f⟩ | ⟨c, d, f, g⟩ | ⟨c, d, f, g, h⟩ | ⟨c, d, f, g, h, j⟩
    all_goals
      go_enter Try.func5, Try.ntmps5
      go_wp2_with (first | (go_at_call 10; refine Calls.mono (cT _ (Pts.to hp (by repeat (first | with_reducible exact Below.refl _ _ | with_reducible assumption | refine bgw ?_ (by first | (simp; done) | (simp; omega) | omega) _ | refine Below.setCell ?_ (by first | exact Nat.le_of_not_lt (by assumption) | (simp; done) | (simp; omega) | omega) _ | refine Below.alloc ?_ (by first | (simp; done) | (simp; omega) | omega) _ | refine Below.drew ?_))) (Pts.to hq (by repeat (first | with_reducible exact Below.refl _ _ | with_reducible assumption | refine bgw ?_ (by first | (simp; done) | (simp; omega) | omega) _ | refine Below.setCell ?_ (by first | exact Nat.le_of_not_lt (by assumption) | (simp; done) | (simp; omega) | omega) _ | refine Below.alloc ?_ (by first | (simp; done) | (simp; omega) | omega) _ | refine Below.drew ?_)))) ?_; rintro e w1 ⟨⟨A1, k1, rfl, hle1, hmx1, hV1, hnil1⟩, q1, rfl⟩) | (go_at_call 8; refine Calls.mono (gw_at (e0 _)) ?_; rintro e w1 ⟨rfl, q, rfl⟩))
      go_ret
      exact ⟨rfl, (by repeat (first | with_reducible exact Below.refl _ _ | with_reducible assumption | refine bgw ?_ (by first | (simp; done) | (simp; omega) | omega) _ | refine Below.setCell ?_ (by first | exact Nat.le_of_not_lt (by assumption) | (simp; done) | (simp; omega) | omega) _ | refine Below.alloc ?_ (by first | (simp; done) | (simp; omega) | omega) _ | refine Below.drew ?_))⟩
  have m1 : ¬ (ps.length : Int) < 2 := by have := hOK.1.1; omega
  have m2 : ¬ (qs.length : Int) < 2 := by have := hOK.2.1; omega
  have m3 : ¬ i < 0 := by have := hOK.1.2.1; omega
  have m4 : ¬ (ps.length : Int) ≤ i := by have := hOK.1.2.2; omega
  have m5 : ¬ k < 0 := by have := hOK.2.2.1; omega
  have m6 : ¬ (qs.length : Int) ≤ k := by have := hOK.2.2.2; omega
  rcases toE_len ps i qs k with hE | ⟨⟨ax, ay, ai⟩, ⟨bx, b_y, bi⟩, hE, h1, h2⟩
  · rw [hE] at cT
    clear hE hOK
    go_enter Try.func5, Try.ntmps5
    go_wp2_with (first | (go_at_call 10; refine Calls.mono (cT _ (Pts.to hp (by repeat (first | with_reducible exact Below.refl _ _ | with_reducible assumption | refine bgw ?_ (by first | (simp; done) | (simp; omega) | omega) _ | refine Below.setCell ?_ (by first | exact Nat.le_of_not_lt (by assumption) | (simp; done) | (simp; omega) | omega) _ | refine Below.alloc ?_ (by first | (simp; done) | (simp; omega) | omega) _ | refine Below.drew ?_))) (Pts.to hq (by repeat (first | with_reducible exact Below.refl _ _ | with_reducible assumption | refine bgw ?_ (by first | (simp; done) | (simp; omega) | omega) _ | refine Below.setCell ?_ (by first | exact Nat.le_of_not_lt (by assumption) | (simp; done) | (simp; omega) | omega) _ | refine Below.alloc ?_ (by first | (simp; done) | (simp; omega) | omega) _ | refine Below.drew ?_)))) ?_; rintro e w1 ⟨⟨A1, k1, rfl, hle1, hmx1, hV1, hnil1⟩, q1, rfl⟩) | (go_at_call 8; refine Calls.mono (gw_at (e0 _)) ?_; rintro e w1 ⟨rfl, q, rfl⟩))
    go_ret
    exact ⟨rfl, (by repeat (first | with_reducible exact Below.refl _ _ | with_reducible assumption | refine bgw ?_ (by first | (simp; done) | (simp; omega) | omega) _ | refine Below.setCell ?_ (by first | exact Nat.le_of_not_lt (by assumption) | (simp; done) | (simp; omega) | omega) _ | refine Below.alloc ?_ (by first | (simp; done) | (simp; omega) | omega) _ | refine Below.drew ?_))⟩
  · dsimp only at h1 h2
    subst h1 h2
    rw [hE] at cT
    clear hE hOK
    go_enter Try.func5, Try.ntmps5
    go_wp2_with (first | (go_at_call 10; refine Calls.mono (cT _ (Pts.to hp (by repeat (first | with_reducible exact Below.refl _ _ | with_reducible assumption | refine bgw ?_ (by first | (simp; done) | (simp; omega) | omega) _ | refine Below.setCell ?_ (by first | exact Nat.le_of_not_lt (by assumption) | (simp; done) | (simp; omega) | omega) _ | refine Below.alloc ?_ (by first | (simp; done) | (simp; omega) | omega) _ | refine Below.drew ?_))) (Pts.to hq (by repeat (first | with_reducible exact Below.refl _ _ | with_reducible assumption | refine bgw ?_ (by first | (simp; done) | (simp; omega) | omega) _ | refine Below.setCell ?_ (by first | exact Nat.le_of_not_lt (by assumption) | (simp; done) | (simp; omega) | omega) _ | refine Below.alloc ?_ (by first | (simp; done) | (simp; omega) | omega) _ | refine Below.drew ?_)))) ?_; rintro e w1 ⟨⟨A1, k1, rfl, hle1, hmx1, hV1, hnil1⟩, q1, rfl⟩; obtain ⟨b5, o5, rfl, hc5⟩ := vts_cells hV1; obtain ⟨d0, d1, d2, d3, d4, d5⟩ := hc5 _ (Below.refl _ _); have od := older_of_cell d0; clear hc5) | (go_at_call 8; refine Calls.mono (gw_at (e0 _)) ?_; rintro e w1 ⟨rfl, q, rfl⟩))
    go_ret
    exact ⟨rfl, (by repeat (first | with_reducible exact Below.refl _ _ | with_reducible assumption | refine bgw ?_ (by first | (simp; done) | (simp; omega) | omega) _ | refine Below.setCell ?_ (by first | exact Nat.le_of_not_lt (by assumption) | (simp; done) | (simp; omega) | omega) _ | refine Below.alloc ?_ (by first | (simp; done) | (simp; omega) | omega) _ | refine Below.drew ?_))⟩

theorem info_vtx : (Try.prog.info? 36).map (fun i => (i.zero, i.size, i.bytes)) = some (some (.agg #[.int .i64 0, .int .i64 0, .int .i64 0]), 3, 24) := by kernel_rfl

set_option maxHeartbeats 8000000 in
theorem walk_ClipHalfPlaneExact (A : Option Addr) (cap : Nat) (l : List Vtx) (ox oy nx ny : Int) (w : World) (ha : Vts w A l) (hl : l.length ≤ cap) (hc : cap ≤ maxLen) : Calls Try.prog 4 #[.slice A l.length cap, .agg #[.int .i64 ox, .int .i64 oy], .agg #[.int .i64 nx, .int .i64 ny]] w fun e w' => e = .returned (.bool true) ∧ Below w.heap.size w w' := by
  have e0 := example15_b
  by_cases n1 : (4 : Int) < (l.length : Int)
  focus
    go_enter Try.func4, Try.ntmps4
    go_wp2_with (go_at_call 8; refine Calls.mono (gw_at (e0 _)) ?_; rintro e w1 ⟨rfl, q, rfl⟩)
    go_ret
    exact ⟨rfl, (by repeat (first | with_reducible exact Below.refl _ _ | with_reducible assumption | refine bgw ?_ (by first | (simp; done) | (simp; omega) | omega) _ | refine Below.setCell ?_ (by first | exact Nat.le_of_not_lt (by assumption) | (simp; done) | (simp; omega) | omega) _ | refine Below.alloc ?_ (by first | (simp; done) | (simp; omega) | omega) _ | refine Below.drew ?_))⟩
  have h4 : l.length ≤ 4 := by omega
  have cT := fun w' h => vtxr_ex (yhalf_b A cap l ox oy nx ny w' h)
  have cU := fun A2 c2 w' h => vtxr_ex (rhalf_b A2 c2 l ox oy nx ny w' h)
  have hL := hpl_le l ox oy nx ny
  have cE := fun A1 A2 c1 c2 w' h1 h2 => yeqv_b A1 A2 c1 c2 (hpl l ox oy nx ny) (by omega) w' h1 h2
  generalize hpl l ox oy nx ny = L at *
  clear hL
  obtain ⟨i0, hi, hz0, hz1, hz2⟩ := info_parts info_vtx
  go_enter Try.func4, Try.ntmps4
  go_wp2_with fail
  refine wp_named ?_
  intro W hW
  have kO : blk W w.heap.size #[.int .i64 ox, .int .i64 oy] 32 := by rw [hW]; exact (by repeat (first | with_reducible exact blk_new _ _ _ | ((with_reducible refine blk_at ?_); (simp; done)) | with_reducible apply blk_alloc | with_reducible apply blk_gw | with_reducible apply blk_drew))
  have kN : blk W (w.heap.size + 1) #[.int .i64 nx, .int .i64 ny] 32 := by rw [hW]; exact (by repeat (first | with_reducible exact blk_new _ _ _ | ((with_reducible refine blk_at ?_); (simp; done)) | with_reducible apply blk_alloc | with_reducible apply blk_gw | with_reducible apply blk_drew))
  have hbW : Below w.heap.size w W := by rw [hW]; exact (by repeat (first | with_reducible exact Below.refl _ _ | with_reducible assumption | refine bgw ?_ (by first | (simp; done) | (simp; omega) | omega) _ | refine Below.setCell ?_ (by first | exact Nat.le_of_not_lt (by assumption) | (simp; done) | (simp; omega) | omega) _ | refine Below.alloc ?_ (by first | (simp; done) | (simp; omega) | omega) _ | refine Below.drew ?_))
  clear hW n1
  have hszW := hbW.size
  have hV := Vts.to ha hbW
  go_loopw [7, 8] (fun o i wr => ∃ (k n : Nat), k ≤ l.length ∧ i = .int .i64 (k : Int) ∧ wr.ownsRow W.heap.size 36 3 o n ((l.take k).flatMap vtc) ∧ n ≤ k ∧ Below W.heap.size W wr)
    (fun _ i _ => (l.length - intOf i).toNat)
  case atStart => exact ⟨0, 0, by omega, rfl, World.ownsRow_nil _ _ _ 3, by omega, Below.refl _ _⟩
  case round =>
    obtain ⟨k, n, hk, rfl, hown, hnk, hbR⟩ := hrel
    have hszR := hbR.size
    have hbWR : Below w.heap.size w wr := Below.trans hbW (hbR.mono hszW)
    by_cases hlt : k < l.length
    · have j0 : (0 : Int) ≤ (k : Int) := by omega
      have j1 : (k : Int) < (l.length : Int) := by omega
      obtain ⟨b2, off2, hA2, hc2⟩ := vts_open hV (by omega)
      subst hA2
      obtain ⟨d0, d1, d2⟩ := hc2 k hlt _ hbR
      have od := older_of_cell d0
      have hs : Hid ((l.take (k + 1)).flatMap vtc = (l.take k).flatMap vtc ++ [.int .i64 l[k].x, .int .i64 l[k].y, .int .i64 l[k].id]) := by
        show _ = _
        rw [List.take_succ_eq_append_getElem hlt, List.flatMap_append]; rfl
      clear hc2 cT cU cE e0 hV ha
      generalize l[k].x = x at *
      generalize l[k].y = y at *
      generalize l[k].id = id at *
      go_wp2_with fail
      first
        | (refine wp_mix 13 [0, 0, 0, 6, 14, 30, 0, 0, 192, 448, 960, 2046, 4094, 8191, 16383] [] [0, 1, 2, 3, 4, 5, 6, 7, 8, 9, 10, 11, 12] (by kernel_rfl) (by decide +kernel) ?_)
        | (refine wp_mix 13 [0, 0, 0, 7, 0, 0, 0, 127, 255, 511, 1023, 2047, 4095] [] [0, 1, 2, 3, 4, 5, 6, 7, 8, 9, 10, 11, 12] (by kernel_rfl) (by decide +kernel) ?_)
      first
        | (repeat (first | (refine mix_skip (by rfl) (by rfl) (by rfl) (by rfl) ?_) | (refine mix_early (by rfl) (by rfl) (by rfl) ?_; go_big_quiet_step (fail); with_reducible refine wpQuiet_nil ?_) | (refine mix_late (by rfl) (by rfl) (by rfl) ?_; go_big_quiet_step (fail); with_reducible refine wpQuiet_nil ?_) | (refine mix_call (by rfl) (by rfl) (by rfl) ?_; intro pM Qs hQs; go_wp2_with fail; refine hQs _ _ (by repeat (first | with_reducible exact Below.refl _ _ | with_reducible assumption | refine bgw ?_ (by first | (simp; done) | (simp; omega) | omega) _ | refine Below.setCell ?_ (by first | exact Nat.le_of_not_lt (by assumption) | (simp; done) | (simp; omega) | omega) _ | refine Below.alloc ?_ (by first | (simp; done) | (simp; omega) | omega) _ | refine Below.drew ?_)) ?_)))
        | (repeat (first | (refine mix_skip (by rfl) (by rfl) (by rfl) (by rfl) ?_) | (refine mix_early (by rfl) (by rfl) (by rfl) ?_; go_big_quiet_step (fail); with_reducible refine wpQuiet_nil ?_) | (refine mix_late (by rfl) (by rfl) (by rfl) ?_; go_big_quiet_step (fail); with_reducible refine wpQuiet_nil ?_) | (refine mix_call (by rfl) (by rfl) (by rfl) ?_; intro pM Qs hQs; go_wp2_with fail; refine hQs _ _ (by repeat (first | with_reducible exact Below.refl _ _ | with_reducible assumption | refine bgw ?_ (by first | (simp; done) | (simp; omega) | omega) _ | refine Below.setCell ?_ (by first | exact Nat.le_of_not_lt (by assumption) | (simp; done) | (simp; omega) | omega) _ | refine Below.alloc ?_ (by first | (simp; done) | (simp; omega) | omega) _ | refine Below.drew ?_)) ?_)))
      refine mix_make #[.int .i64 x, .int .i64 y, .int .i64 id] 36 (some 1) (by rfl) (by rfl) (by rfl) (by rfl) (fun w => by simp [go_sem, mval]) ?_
      intro b5 wb hbb kb hS
      obtain ⟨qb, rfl⟩ := gw_of_below hbb
      clear hbb hS
      simp only [mval]
      first
        | (refine mix_end ?_
           intro pE
           simp only [List.drop_succ_cons, List.drop_zero])
        | (refine mix_end ?_
           intro pE
           simp only [List.drop_succ_cons, List.drop_zero])
      go_wp2_with (at_builtin; refine wpList_appM rfl _ _ 28 rfl W.heap.size 36 i0 (.agg #[.int .i64 0, .int .i64 0, .int .i64 0]) 3 24 Try.underlying28 hi hz0 hz1 hz2 rfl (by decide) _ _ _ rfl (owns_below hown (by repeat (first | with_reducible exact Below.refl _ _ | with_reducible assumption | refine bgw ?_ (by first | (simp; done) | (simp; omega) | omega) _ | refine Below.setCell ?_ (by first | exact Nat.le_of_not_lt (by assumption) | (simp; done) | (simp; omega) | omega) _ | refine Below.alloc ?_ (by first | (simp; done) | (simp; omega) | omega) _ | refine Below.drew ?_))) _ [.int .i64 x, .int .i64 y, .int .i64 id] 36 rfl rfl (by show blk _ _ #[.int .i64 x, .int .i64 y, .int .i64 id] _; exact (by apply blk_of; (repeat (first | with_reducible exact kb | with_reducible apply blk_drew | with_reducible apply blk_gw | with_reducible apply blk_alloc | with_reducible apply blk_set | ((with_reducible apply blk_other); focus omega))); (first | rfl | simp))) (fun u hu => by simp at hu; rcases hu with rfl | rfl | rfl <;> rfl) (by unfold maxLen; omega) (by omega) (by first | (simp; omega) | omega) ?_; intro v' w2 hown2 hb2)
      exact ⟨⟨k + 1, n + 1, by omega, by go_num, by rw [hs.out]; exact hown2, by omega, Below.trans hbR (Below.trans (by repeat (first | with_reducible exact Below.refl _ _ | with_reducible assumption | refine bgw ?_ (by first | (simp; done) | (simp; omega) | omega) _ | refine Below.setCell ?_ (by first | exact Nat.le_of_not_lt (by assumption) | (simp; done) | (simp; omega) | omega) _ | refine Below.alloc ?_ (by first | (simp; done) | (simp; omega) | omega) _ | refine Below.drew ?_)) hb2)⟩, by (try go_num); simp [intOf]; (try omega)⟩
    · obtain rfl : k = l.length := by omega
      have j1 : ¬ (l.length : Int) < (l.length : Int) := by omega
      rw [List.take_length] at hown
      obtain ⟨A5, c5, rfl, rfl, hle5, hmx5, hP5, hnil5⟩ := owns_els (c := vtc) (sz := 3) (fun f => rfl) (by decide) hown
      have kO1 := blk_below hbR kO
      have kN1 := blk_below hbR kN
      have okO1 := blk_older kO1
      have ckO1_0 : _ = some _ := blk_cell kO1 0
      have ckO1_1 : _ = some _ := blk_cell kO1 1
      have fkO1_0 := blk_free kO1 0
      have fkO1_1 := blk_free kO1 1
      have okN1 := blk_older kN1
      have ckN1_0 : _ = some _ := blk_cell kN1 0
      have ckN1_1 : _ = some _ := blk_cell kN1 1
      have fkN1_0 := blk_free kN1 0
      have fkN1_1 := blk_free kN1 1
      clear hown kO kN
      go_wp2_with fail
      first
        | (refine wp_mix 13 [0, 0, 0, 6, 14, 30, 0, 0, 192, 448, 960, 2046, 4094, 8191, 16383] [] [0, 1, 2, 3, 4, 5, 6, 7, 8, 9, 10, 11, 12] (by kernel_rfl) (by decide +kernel) ?_
           repeat (first | (refine mix_skip (by rfl) (by rfl) (by rfl) (by rfl) ?_) | (refine mix_early (by rfl) (by rfl) (by rfl) ?_; go_big_quiet_step (fail); with_reducible refine wpQuiet_nil ?_) | (refine mix_late (by rfl) (by rfl) (by rfl) ?_; go_big_quiet_step (fail); with_reducible refine wpQuiet_nil ?_) | (refine mix_call (by rfl) (by rfl) (by rfl) ?_; intro pM Qs hQs; go_wp2_with (first | (go_at_call 12; refine Calls.mono (cT _ (Vts.to ha (by repeat (first | with_reducible exact Below.refl _ _ | with_reducible assumption | refine bgw ?_ (by first | (simp; done) | (simp; omega) | omega) _ | refine Below.setCell ?_ (by first | exact Nat.le_of_not_lt (by assumption) | (simp; done) | (simp; omega) | omega) _ | refine Below.alloc ?_ (by first | (simp; done) | (simp; omega) | omega) _ | refine Below.drew ?_)))) ?_; rintro e w1 ⟨⟨A1, k1, rfl, hle1, hmx1, hV1, hnil1⟩, q1, rfl⟩) | (go_at_call 13; refine Calls.mono (cU _ _ _ (Vts.to hP5 (by repeat (first | with_reducible exact Below.refl _ _ | with_reducible assumption | refine bgw ?_ (by first | (simp; done) | (simp; omega) | omega) _ | refine Below.setCell ?_ (by first | exact Nat.le_of_not_lt (by assumption) | (simp; done) | (simp; omega) | omega) _ | refine Below.alloc ?_ (by first | (simp; done) | (simp; omega) | omega) _ | refine Below.drew ?_)))) ?_; rintro e w1 ⟨⟨A2, k2, rfl, hle2, hmx2, hV2, hnil2⟩, q2, rfl⟩) | (go_at_call 9; refine Calls.mono (gw_at (cE _ _ _ _ _ (Vts.to hV1 (by repeat (first | with_reducible exact Below.refl _ _ | with_reducible assumption | refine bgw ?_ (by first | (simp; done) | (simp; omega) | omega) _ | refine Below.setCell ?_ (by first | exact Nat.le_of_not_lt (by assumption) | (simp; done) | (simp; omega) | omega) _ | refine Below.alloc ?_ (by first | (simp; done) | (simp; omega) | omega) _ | refine Below.drew ?_))) (Vts.to hV2 (by repeat (first | with_reducible exact Below.refl _ _ | with_reducible assumption | refine bgw ?_ (by first | (simp; done) | (simp; omega) | omega) _ | refine Below.setCell ?_ (by first | exact Nat.le_of_not_lt (by assumption) | (simp; done) | (simp; omega) | omega) _ | refine Below.alloc ?_ (by first | (simp; done) | (simp; omega) | omega) _ | refine Below.drew ?_))))) ?_; rintro e w1 ⟨rfl, q3, rfl⟩) | (go_at_call 8; refine Calls.mono (gw_at (e0 _)) ?_; rintro e w1 ⟨rfl, q4, rfl⟩)); refine hQs _ _ (by repeat (first | with_reducible exact Below.refl _ _ | with_reducible assumption | refine bgw ?_ (by first | (simp; done) | (simp; omega) | omega) _ | refine Below.setCell ?_ (by first | exact Nat.le_of_not_lt (by assumption) | (simp; done) | (simp; omega) | omega) _ | refine Below.alloc ?_ (by first | (simp; done) | (simp; omega) | omega) _ | refine Below.drew ?_)) ?_))
           refine mix_end ?_
           intro pE
           simp only [List.drop_succ_cons, List.drop_zero])
        | (refine wp_mix 13 [0, 0, 0, 7, 0, 0, 0, 127, 255, 511, 1023, 2047, 4095] [] [0, 1, 2, 3, 4, 5, 6, 7, 8, 9, 10, 11, 12] (by kernel_rfl) (by decide +kernel) ?_
           repeat (first | (refine mix_skip (by rfl) (by rfl) (by rfl) (by rfl) ?_) | (refine mix_early (by rfl) (by rfl) (by rfl) ?_; go_big_quiet_step (fail); with_reducible refine wpQuiet_nil ?_) | (refine mix_late (by rfl) (by rfl) (by rfl) ?_; go_big_quiet_step (fail); with_reducible refine wpQuiet_nil ?_) | (refine mix_call (by rfl) (by rfl) (by rfl) ?_; intro pM Qs hQs; go_wp2_with (first | (go_at_call 12; refine Calls.mono (cT _ (Vts.to ha (by repeat (first | with_reducible exact Below.refl _ _ | with_reducible assumption | refine bgw ?_ (by first | (simp; done) | (simp; omega) | omega) _ | refine Below.setCell ?_ (by first | exact Nat.le_of_not_lt (by assumption) | (simp; done) | (simp; omega) | omega) _ | refine Below.alloc ?_ (by first | (simp; done) | (simp; omega) | omega) _ | refine Below.drew ?_)))) ?_; rintro e w1 ⟨⟨A1, k1, rfl, hle1, hmx1, hV1, hnil1⟩, q1, rfl⟩) | (go_at_call 13; refine Calls.mono (cU _ _ _ (Vts.to hP5 (by repeat (first | with_reducible exact Below.refl _ _ | with_reducible assumption | refine bgw ?_ (by first | (simp; done) | (simp; omega) | omega) _ | refine Below.setCell ?_ (by first | exact Nat.le_of_not_lt (by assumption) | (simp; done) | (simp; omega) | omega) _ | refine Below.alloc ?_ (by first | (simp; done) | (simp; omega) | omega) _ | refine Below.drew ?_)))) ?_; rintro e w1 ⟨⟨A2, k2, rfl, hle2, hmx2, hV2, hnil2⟩, q2, rfl⟩) | (go_at_call 9; refine Calls.mono (gw_at (cE _ _ _ _ _ (Vts.to hV1 (by repeat (first | with_reducible exact Below.refl _ _ | with_reducible assumption | refine bgw ?_ (by first | (simp; done) | (simp; omega) | omega) _ | refine Below.setCell ?_ (by first | exact Nat.le_of_not_lt (by assumption) | (simp; done) | (simp; omega) | omega) _ | refine Below.alloc ?_ (by first | (simp; done) | (simp; omega) | omega) _ | refine Below.drew ?_))) (Vts.to hV2 (by repeat (first | with_reducible exact Below.refl _ _ | with_reducible assumption | refine bgw ?_ (by first | (simp; done) | (simp; omega) | omega) _ | refine Below.setCell ?_ (by first | exact Nat.le_of_not_lt (by assumption) | (simp; done) | (simp; omega) | omega) _ | refine Below.alloc ?_ (by first | (simp; done) | (simp; omega) | omega) _ | refine Below.drew ?_))))) ?_; rintro e w1 ⟨rfl, q3, rfl⟩) | (go_at_call 8; refine Calls.mono (gw_at (e0 _)) ?_; rintro e w1 ⟨rfl, q4, rfl⟩)); refine hQs _ _ (by repeat (first | with_reducible exact Below.refl _ _ | with_reducible assumption | refine bgw ?_ (by first | (simp; done) | (simp; omega) | omega) _ | refine Below.setCell ?_ (by first | exact Nat.le_of_not_lt (by assumption) | (simp; done) | (simp; omega) | omega) _ | refine Below.alloc ?_ (by first | (simp; done) | (simp; omega) | omega) _ | refine Below.drew ?_)) ?_))
           refine mix_end ?_
           intro pE
           simp only [List.drop_succ_cons, List.drop_zero])
      go_wp2_with fail
      go_ret
      exact ⟨rfl, (by repeat (first | with_reducible exact Below.refl _ _ | with_reducible assumption | refine bgw ?_ (by first | (simp; done) | (simp; omega) | omega) _ | refine Below.setCell ?_ (by first | exact Nat.le_of_not_lt (by assumption) | (simp; done) | (simp; omega) | omega) _ | refine Below.alloc ?_ (by first | (simp; done) | (simp; omega) | omega) _ | refine Below.drew ?_))⟩

end Go.Proofs.Ytiahkaonbkmffaa
