/- Laws of chapter 12: ShapeSupportInBounds. -/
import Derived.Test.YtihfmaaacekalaaFixZM
set_option linter.unusedVariables false
namespace Go.Proofs.Ytihfmaaacekalaa
open Go.RowKit Fx

set_option maxHeartbeats 8000000 in
theorem walk_ShapeSupportInBounds (K R : Int) (A : Option Addr) (cap : Nat) (ps : List (Int × Int)) (px py a dx dy : Int) (w : World) (hp : Pts w A ps) (hl : ps.length ≤ cap) (hc : cap ≤ maxLen) : Calls Try.prog 5 #[.agg #[.int .i64 K, .int .i64 R, .slice A ps.length cap], .agg #[.int .i64 px, .int .i64 py, .int .i64 a], .agg #[.int .i64 dx, .int .i64 dy]] w fun e w' => e = .returned (.bool true) ∧ Below w.heap.size w w' := by
  have e0 := example12_b
  have cF := fun (w' : World) => rfew_b K R A ps.length cap w'
  have cT := fun (w' : World) => rtval_b px py a w'
  by_cases n1 : (ps.length : Int) ≤ 20
  rotate_left
  · rw [decide_eq_false n1] at cF
    clear n1
    go_enter Try.func5, Try.ntmps5
    go_wp2_with (first | (go_at_call 6; refine Calls.mono (gw_at (cF _)) ?_; rintro e w1 ⟨rfl, q, rfl⟩) | (go_at_call 7; refine Calls.mono (gw_at (e0 _)) ?_; rintro e w1 ⟨rfl, q, rfl⟩))
    go_ret
    exact ⟨rfl, (by repeat (first | with_reducible exact Below.refl _ _ | with_reducible assumption | refine bgw ?_ (by first | (simp; done) | (simp; omega) | omega) _ | refine Below.setCell ?_ (by first | exact Nat.le_of_not_lt (by assumption) | (simp; done) | (simp; omega) | omega) _ | refine Below.alloc ?_ (by first | (simp; done) | (simp; omega) | omega) _ | refine Below.drew ?_))⟩
  rw [decide_eq_true n1] at cF
  cases hv : tval px py a
  · rw [hv] at cT
    clear n1 hv
    go_enter Try.func5, Try.ntmps5
    go_wp2_with (first | (go_at_call 6; refine Calls.mono (gw_at (cF _)) ?_; rintro e w1 ⟨rfl, q, rfl⟩) | (go_at_call 13; refine Calls.mono (gw_at (cT _)) ?_; rintro e w1 ⟨rfl, q, rfl⟩) | (go_at_call 7; refine Calls.mono (gw_at (e0 _)) ?_; rintro e w1 ⟨rfl, q, rfl⟩))
    go_ret
    exact ⟨rfl, (by repeat (first | with_reducible exact Below.refl _ _ | with_reducible assumption | refine bgw ?_ (by first | (simp; done) | (simp; omega) | omega) _ | refine Below.setCell ?_ (by first | exact Nat.le_of_not_lt (by assumption) | (simp; done) | (simp; omega) | omega) _ | refine Below.alloc ?_ (by first | (simp; done) | (simp; omega) | omega) _ | refine Below.drew ?_))⟩
  rw [hv] at cT
  have cV := fun w' h => yval_b K R A cap ps (by omega) w' h
  by_cases hz : valS K R ps = 0
  rotate_left
  · have b1 : (valS K R ps != 0) = true := by rw [bne_iff_ne]; exact hz
    clear hz n1 hv
    generalize valS K R ps = V at *
    go_enter Try.func5, Try.ntmps5
    go_wp2_with (first | (go_at_call 6; refine Calls.mono (gw_at (cF _)) ?_; rintro e w1 ⟨rfl, q, rfl⟩) | (go_at_call 13; refine Calls.mono (gw_at (cT _)) ?_; rintro e w1 ⟨rfl, q, rfl⟩) | (go_at_call 9; refine Calls.mono (gw_at (cV _ (Pts.to hp (by repeat (first | with_reducible exact Below.refl _ _ | with_reducible assumption | refine bgw ?_ (by first | (simp; done) | (simp; omega) | omega) _ | refine Below.setCell ?_ (by first | exact Nat.le_of_not_lt (by assumption) | (simp; done) | (simp; omega) | omega) _ | refine Below.alloc ?_ (by first | (simp; done) | (simp; omega) | omega) _ | refine Below.drew ?_))))) ?_; rintro e w1 ⟨rfl, q, rfl⟩) | (go_at_call 7; refine Calls.mono (gw_at (e0 _)) ?_; rintro e w1 ⟨rfl, q, rfl⟩))
    go_ret
    exact ⟨rfl, (by repeat (first | with_reducible exact Below.refl _ _ | with_reducible assumption | refine bgw ?_ (by first | (simp; done) | (simp; omega) | omega) _ | refine Below.setCell ?_ (by first | exact Nat.le_of_not_lt (by assumption) | (simp; done) | (simp; omega) | omega) _ | refine Below.alloc ?_ (by first | (simp; done) | (simp; omega) | omega) _ | refine Below.drew ?_))⟩
  have cB := fun w' h => ybnd_b K R A cap ps px py a (by omega) w' h
  have cL := fun w' h => yvert_b K R A cap ps px py a (by omega) w' h
  have cS := fun w' h => ysup_b K R A cap ps px py a dx dy (by omega) w' h
  have hsp := sup_has (dx := dx) (dy := dy) hv hz
  have hco : ∀ p ∈ ps.map (tr px py a), (bndS K R ps px py a).has p.1 p.2 = true := fun p hp => core_has hv hz hp
  rw [hz] at cV
  rw [core_ok _ _ _ hz] at cL
  have hll : (ps.map (tr px py a)).length = ps.length := List.length_map _
  have h8 : (ps.map (tr px py a)).length ≤ 8 := by rw [List.length_map]; exact (val_len hz).2.1
  generalize bndS K R ps px py a = b at *
  generalize ps.map (tr px py a) = L at *
  generalize supS K R ps px py a dx dy = S at *
  obtain ⟨x0, y0, x1, y1⟩ := b
  obtain ⟨sx, sy⟩ := S
  dsimp only at cB cS hsp
  have cH : ∀ k (h : k < L.length) w', Calls Try.prog 18 #[.agg #[.int .i64 x0, .int .i64 y0, .int .i64 x1, .int .i64 y1], .agg #[.int .i64 L[k].1, .int .i64 L[k].2]] w' fun e w'' => e = .returned (.bool true) ∧ Below w'.heap.size w' w'' := fun k h w' => by
    have := xhas_b x0 y0 x1 y1 L[k].1 L[k].2 w'; rw [show has6 x0 y0 x1 y1 L[k].1 L[k].2 = true from hco _ (List.getElem_mem h)] at this; exact this
  have cI : ∀ w', Calls Try.prog 18 #[.agg #[.int .i64 x0, .int .i64 y0, .int .i64 x1, .int .i64 y1], .agg #[.int .i64 sx, .int .i64 sy]] w' fun e w'' => e = .returned (.bool true) ∧ Below w'.heap.size w' w'' := fun w' => by
    have := xhas_b x0 y0 x1 y1 sx sy w'; rw [show has6 x0 y0 x1 y1 sx sy = true from hsp] at this; exact this
  have b1 : ((L.length : Int) == (ps.length : Int)) = true := by rw [beq_iff_eq]; omega
  clear hz n1 hv hll hco hsp
  go_enter Try.func5, Try.ntmps5
  go_upto_region 4 with (first | (go_at_call 6; refine Calls.mono (gw_at (cF _)) ?_; rintro e w1 ⟨rfl, qf, rfl⟩) | (go_at_call 13; refine Calls.mono (gw_at (cT _)) ?_; rintro e w1 ⟨rfl, qt, rfl⟩) | (go_at_call 9; refine Calls.mono (gw_at (cV _ (Pts.to hp (by repeat (first | with_reducible exact Below.refl _ _ | with_reducible assumption | refine bgw ?_ (by first | (simp; done) | (simp; omega) | omega) _ | refine Below.setCell ?_ (by first | exact Nat.le_of_not_lt (by assumption) | (simp; done) | (simp; omega) | omega) _ | refine Below.alloc ?_ (by first | (simp; done) | (simp; omega) | omega) _ | refine Below.drew ?_))))) ?_; rintro e w1 ⟨rfl, qv, rfl⟩) | (go_at_call 15; refine Calls.mono (gw_at (cB _ (Pts.to hp (by repeat (first | with_reducible exact Below.refl _ _ | with_reducible assumption | refine bgw ?_ (by first | (simp; done) | (simp; omega) | omega) _ | refine Below.setCell ?_ (by first | exact Nat.le_of_not_lt (by assumption) | (simp; done) | (simp; omega) | omega) _ | refine Below.alloc ?_ (by first | (simp; done) | (simp; omega) | omega) _ | refine Below.drew ?_))))) ?_; rintro e w1 ⟨rfl, qb, rfl⟩))
  refine wp_named ?_
  intro V hV
  have hbV : Below w.heap.size w V := by rw [hV]; exact (by repeat (first | with_reducible exact Below.refl _ _ | with_reducible assumption | refine bgw ?_ (by first | (simp; done) | (simp; omega) | omega) _ | refine Below.setCell ?_ (by first | exact Nat.le_of_not_lt (by assumption) | (simp; done) | (simp; omega) | omega) _ | refine Below.alloc ?_ (by first | (simp; done) | (simp; omega) | omega) _ | refine Below.drew ?_))
  have kA : blk V w.heap.size #[.int .i64 K, .int .i64 R, .slice A ps.length cap] 25 := by rw [hV]; exact (by repeat (first | with_reducible exact blk_new _ _ _ | ((with_reducible refine blk_at ?_); (simp; done)) | with_reducible apply blk_alloc | with_reducible apply blk_gw | with_reducible apply blk_drew))
  have kT : blk V (w.heap.size + 1) #[.int .i64 px, .int .i64 py, .int .i64 a] 36 := by rw [hV]; exact (by repeat (first | with_reducible exact blk_new _ _ _ | ((with_reducible refine blk_at ?_); (simp; done)) | with_reducible apply blk_alloc | with_reducible apply blk_gw | with_reducible apply blk_drew))
  have kD : blk V (w.heap.size + 1 + 1) #[.int .i64 dx, .int .i64 dy] 34 := by rw [hV]; exact (by repeat (first | with_reducible exact blk_new _ _ _ | ((with_reducible refine blk_at ?_); (simp; done)) | with_reducible apply blk_alloc | with_reducible apply blk_gw | with_reducible apply blk_drew))
  have kC : blk V (w.heap.size + 1 + 1 + 1 + qf.os.size + qt.os.size + qv.os.size + qb.os.size) #[.int .i64 x0, .int .i64 y0, .int .i64 x1, .int .i64 y1] 40 := by rw [hV]; exact (by repeat (first | with_reducible exact blk_new _ _ _ | ((with_reducible refine blk_at ?_); (simp; done)) | with_reducible apply blk_alloc | with_reducible apply blk_gw | with_reducible apply blk_drew))
  clear hV cF cT cV cB
  generalize w.heap.size + 1 + 1 + 1 + qf.os.size + qt.os.size + qv.os.size + qb.os.size = C at *
  have hPA : Pts V A ps := Pts.to hp hbV
  have hszV := hbV.size
  have okA := blk_older kA
  have ckA_0 : _ = some _ := blk_cell kA 0
  have ckA_1 : _ = some _ := blk_cell kA 1
  have ckA_2 : _ = some _ := blk_cell kA 2
  have fkA_0 := blk_free kA 0
  have fkA_1 := blk_free kA 1
  have fkA_2 := blk_free kA 2
  have okT := blk_older kT
  have ckT_0 : _ = some _ := blk_cell kT 0
  have ckT_1 : _ = some _ := blk_cell kT 1
  have ckT_2 : _ = some _ := blk_cell kT 2
  have fkT_0 := blk_free kT 0
  have fkT_1 := blk_free kT 1
  have fkT_2 := blk_free kT 2
  have okD := blk_older kD
  have ckD_0 : _ = some _ := blk_cell kD 0
  have ckD_1 : _ = some _ := blk_cell kD 1
  have fkD_0 := blk_free kD 0
  have fkD_1 := blk_free kD 1
  have okC := blk_older kC
  have ckC_0 : _ = some _ := blk_cell kC 0
  have ckC_1 : _ = some _ := blk_cell kC 1
  have ckC_2 : _ = some _ := blk_cell kC 2
  have ckC_3 : _ = some _ := blk_cell kC 3
  have fkC_0 := blk_free kC 0
  have fkC_1 := blk_free kC 1
  have fkC_2 := blk_free kC 2
  have fkC_3 := blk_free kC 3
  go_upto_region 5 with (go_at_call 16; refine Calls.mono (cL _ (Pts.to hPA (by repeat (first | with_reducible exact Below.refl _ _ | with_reducible assumption | refine bgw ?_ (by first | (simp; done) | (simp; omega) | omega) _ | refine Below.setCell ?_ (by first | exact Nat.le_of_not_lt (by assumption) | (simp; done) | (simp; omega) | omega) _ | refine Below.alloc ?_ (by first | (simp; done) | (simp; omega) | omega) _ | refine Below.drew ?_)))) ?_; rintro e w1 ⟨⟨A1, cap1, rfl, h11, h12, h13⟩, hb1⟩; obtain ⟨q1, rfl⟩ := gw_of_below hb1; clear hb1)
  go_wp2_with fail
  go_loopw [9] (fun i wr => ∃ k : Nat, k ≤ L.length ∧ i = .int .i64 (k : Int) ∧ ∃ p, wr = gw (gw V q1) p)
    (fun i _ => (L.length - intOf i).toNat)
  case atStart => exact ⟨0, by omega, rfl, ⟨⟨(gw V q1).drawn, #[]⟩, (gw_zero (gw V q1)).symm⟩⟩
  case round =>
    obtain ⟨k, hk, rfl, p, rfl⟩ := hrel
    by_cases hlt : k < L.length
    · have j0 : (0 : Int) ≤ (k : Int) := by omega
      have j1 : (k : Int) < (L.length : Int) := by omega
      obtain ⟨b2, off2, hA2, hc2⟩ := pts_open h13 (by omega)
      subst hA2
      obtain ⟨f0, f1⟩ := hc2 p k hlt
      have ob := older_of_cell f0
      have cM := cH k hlt
      clear cH hc2
      generalize L[k].1 = x at *
      generalize L[k].2 = y at *
      go_wp2_with fail
      refine wp_region_gw (by kernel_rfl) (by kernel_rfl) ?_
      repeat (go_big_quiet_step (first | (go_at_call 18; exact gw_call (cM _))))
      refine wpQuiet_nil ?_
      intro w1 hw1
      obtain ⟨q, rfl⟩ := hw1
      go_wp2_with fail
      exact ⟨⟨k + 1, by omega, by go_num, gw_gw _ _ _⟩, by (try go_num); simp [intOf]; (try omega)⟩
    · obtain rfl : k = L.length := by omega
      have j1 : ¬ (L.length : Int) < (L.length : Int) := by omega
      clear cH
      go_wp2_with fail
      refine wp_region_gw (by kernel_rfl) (by kernel_rfl) ?_
      repeat (go_big_quiet_step (first | (go_at_call 20; exact gw_call (cS _ (Pts.to hPA (by repeat (first | with_reducible exact Below.refl _ _ | with_reducible assumption | refine bgw ?_ (by first | (simp; done) | (simp; omega) | omega) _ | refine Below.setCell ?_ (by first | exact Nat.le_of_not_lt (by assumption) | (simp; done) | (simp; omega) | omega) _ | refine Below.alloc ?_ (by first | (simp; done) | (simp; omega) | omega) _ | refine Below.drew ?_))))) | (go_at_call 18; exact gw_call (cI _)) | (go_at_call 7; exact gw_call (e0 _))))
      refine wpQuiet_nil ?_
      intro w1 hw1
      obtain ⟨q, rfl⟩ := hw1
      go_wp2_with fail
      go_ret
      exact ⟨rfl, Below.trans hbV (Below.mono (by repeat (first | with_reducible exact Below.refl _ _ | with_reducible assumption | refine bgw ?_ (by first | (simp; done) | (simp; omega) | omega) _ | refine Below.setCell ?_ (by first | exact Nat.le_of_not_lt (by assumption) | (simp; done) | (simp; omega) | omega) _ | refine Below.alloc ?_ (by first | (simp; done) | (simp; omega) | omega) _ | refine Below.drew ?_)) hszV)⟩

end Go.Proofs.Ytihfmaaacekalaa
