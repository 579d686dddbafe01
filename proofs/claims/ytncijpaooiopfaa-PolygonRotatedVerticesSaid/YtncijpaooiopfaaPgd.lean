/- Package polygon, the landed code: Go's library laid at this seat (SortFunc, Reverse at points, Compare); cmp.Or; compareXThenY. -/
import Derived.Test.YtncijpaooiopfaaPgM
import Derived.Shelf.SlSortCmp.NoneTotal
import Derived.Shelf.SlicesQ.Reverse
import Derived.Shelf.Small.Wraps
import Derived.Shelf.SlGeneric
set_option linter.unusedVariables false
namespace Go.Proofs.Ytncijpaooiopfaa
open Go.RowKit Fx

def sfRen : Go.Shelf.Ren := ⟨fun
  | 6 => 28
  | 14 => 52
  | 15 => 53
  | 20 => 70
  | 21 => 71
  | 22 => 72
  | 23 => 73
  | 24 => 74
  | 25 => 75
  | 26 => 76
  | 27 => 77
  | 28 => 78
  | 29 => 79
  | 46 => 83
  | 47 => 84
  | 48 => 85
  | 49 => 86
  | 50 => 87
  | 57 => 88
  | n => n, fun
  | 0 => 0
  | 1 => 1
  | 2 => 2
  | 3 => 3
  | 4 => 4
  | 5 => 5
  | 6 => 6
  | 8 => 8
  | 9 => 9
  | 10 => 10
  | 11 => 11
  | 12 => 12
  | 14 => 14
  | 15 => 15
  | 16 => 16
  | 17 => 17
  | 19 => 19
  | 21 => 21
  | 22 => 22
  | 23 => 36
  | 24 => 27
  | 25 => 37
  | 26 => 38
  | 27 => 80
  | 29 => 46
  | 37 => 60
  | 38 => 61
  | 39 => 62
  | 40 => 43
  | 42 => 64
  | 44 => 68
  | 45 => 69
  | 46 => 70
  | 47 => 71
  | 48 => 72
  | 49 => 73
  | 50 => 74
  | 51 => 75
  | 52 => 76
  | 53 => 77
  | 54 => 78
  | 55 => 79
  | 66 => 82
  | 67 => 83
  | 68 => 84
  | 69 => 85
  | 70 => 86
  | 71 => 87
  | 76 => 88
  | 77 => 89
  | 78 => 90
  | 81 => 91
  | 83 => 93
  | 84 => 94
  | 86 => 96
  | 87 => 97
  | 88 => 98
  | 89 => 99
  | 90 => 100
  | 91 => 101
  | 92 => 102
  | 93 => 103
  | 95 => 105
  | 96 => 106
  | n => n, fun n => n⟩
theorem sf_lays : SlLaysF0.n6 Try.prog sfRen := {
  mixed := by kernel_rfl
  f6 := ⟨"slices.SortFunc[[]carom/api.Vec,carom/api.Vec]", by decide, by kernel_rfl⟩
  f14 := ⟨"slices.pdqsortCmpFunc[carom/api.Vec]", by decide, by kernel_rfl⟩
  f15 := by kernel_rfl
  f20 := ⟨"slices.insertionSortCmpFunc[carom/api.Vec]", by decide, by kernel_rfl⟩
  f21 := ⟨"slices.heapSortCmpFunc[carom/api.Vec]", by decide, by kernel_rfl⟩
  f22 := ⟨"slices.breakPatternsCmpFunc[carom/api.Vec]", by decide, by kernel_rfl⟩
  f23 := ⟨"slices.choosePivotCmpFunc[carom/api.Vec]", by decide, by kernel_rfl⟩
  f24 := ⟨"slices.reverseRangeCmpFunc[carom/api.Vec]", by decide, by kernel_rfl⟩
  f25 := ⟨"slices.partialInsertionSortCmpFunc[carom/api.Vec]", by decide, by kernel_rfl⟩
  f26 := ⟨"slices.partitionEqualCmpFunc[carom/api.Vec]", by decide, by kernel_rfl⟩
  f27 := ⟨"slices.partitionCmpFunc[carom/api.Vec]", by decide, by kernel_rfl⟩
  f28 := by kernel_rfl
  f29 := by kernel_rfl
  f46 := ⟨"slices.siftDownCmpFunc[carom/api.Vec]", by decide, by kernel_rfl⟩
  f47 := by kernel_rfl
  f48 := by kernel_rfl
  f49 := ⟨"slices.medianAdjacentCmpFunc[carom/api.Vec]", by decide, by kernel_rfl⟩
  f50 := ⟨"slices.medianCmpFunc[carom/api.Vec]", by decide, by kernel_rfl⟩
  f57 := ⟨"slices.order2CmpFunc[carom/api.Vec]", by decide, by kernel_rfl⟩
  t0 := by kernel_rfl
  a0 := fun _ => by kernel_rfl
  z0 := fun _ => by kernel_rfl
  v0 := fun _ => by kernel_rfl
  t3 := by kernel_rfl
  a3 := fun _ => by kernel_rfl
  z3 := fun _ => by kernel_rfl
  v3 := fun _ => by kernel_rfl
  t4 := by kernel_rfl
  a4 := fun _ => by kernel_rfl
  z4 := fun _ => by kernel_rfl
  v4 := fun _ => by kernel_rfl
  t5 := by kernel_rfl
  a5 := fun _ => by kernel_rfl
  z5 := fun _ => by kernel_rfl
  v5 := fun _ => by kernel_rfl
  t9 := by kernel_rfl
  a9 := fun _ => by kernel_rfl
  z9 := fun _ => by kernel_rfl
  v9 := fun _ => by kernel_rfl
  t22 := by kernel_rfl
  a22 := fun _ => by kernel_rfl
  z22 := fun _ => by kernel_rfl
  v22 := fun _ => by kernel_rfl
  t25 := by kernel_rfl
  a25 := fun _ => by kernel_rfl
  z25 := fun _ => by kernel_rfl
  v25 := fun _ => by kernel_rfl
  t39 := by kernel_rfl
  a39 := fun _ => by kernel_rfl
  z39 := fun _ => by kernel_rfl
  v39 := fun _ => by kernel_rfl
  t45 := by kernel_rfl
  a45 := fun _ => by kernel_rfl
  z45 := fun _ => by kernel_rfl
  v45 := fun _ => by kernel_rfl
  t46 := by kernel_rfl
  a46 := fun _ => by kernel_rfl
  z46 := fun _ => by kernel_rfl
  v46 := fun _ => by kernel_rfl
  t50 := by kernel_rfl
  a50 := fun _ => by kernel_rfl
  z50 := fun _ => by kernel_rfl
  v50 := fun _ => by kernel_rfl
  t53 := by kernel_rfl
  a53 := fun _ => by kernel_rfl
  z53 := fun _ => by kernel_rfl
  v53 := fun _ => by kernel_rfl
  t55 := by kernel_rfl
  a55 := fun _ => by kernel_rfl
  z55 := fun _ => by kernel_rfl
  v55 := fun _ => by kernel_rfl
  t66 := by kernel_rfl
  a66 := fun _ => by kernel_rfl
  z66 := fun _ => by kernel_rfl
  v66 := fun _ => by kernel_rfl
  t70 := by kernel_rfl
  a70 := fun _ => by kernel_rfl
  z70 := fun _ => by kernel_rfl
  v70 := fun _ => by kernel_rfl
  t76 := by kernel_rfl
  a76 := fun _ => by kernel_rfl
  z76 := fun _ => by kernel_rfl
  v76 := fun _ => by kernel_rfl
  t77 := by kernel_rfl
  a77 := fun _ => by kernel_rfl
  z77 := fun _ => by kernel_rfl
  v77 := fun _ => by kernel_rfl }

def srRen : Go.Shelf.Ren := ⟨fun
  | 35 => 32
  | n => n, fun
  | 0 => 0
  | 1 => 1
  | 2 => 2
  | 3 => 3
  | 4 => 4
  | 5 => 5
  | 6 => 6
  | 8 => 8
  | 9 => 9
  | 10 => 10
  | 11 => 11
  | 12 => 12
  | 14 => 14
  | 15 => 15
  | 16 => 16
  | 17 => 17
  | 19 => 19
  | 21 => 21
  | 22 => 22
  | 23 => 27
  | 24 => 32
  | 28 => 28
  | 30 => 25
  | 32 => 38
  | 34 => 31
  | 36 => 24
  | 44 => 74
  | 47 => 29
  | 51 => 62
  | 53 => 43
  | 57 => 61
  | 60 => 69
  | 61 => 70
  | 66 => 76
  | 67 => 77
  | 68 => 78
  | 69 => 79
  | 75 => 82
  | 76 => 83
  | 77 => 84
  | 79 => 86
  | 83 => 88
  | 84 => 89
  | 87 => 91
  | 89 => 93
  | 90 => 94
  | 92 => 96
  | 93 => 97
  | 94 => 98
  | 95 => 99
  | 96 => 100
  | 97 => 101
  | 98 => 102
  | 99 => 103
  | 101 => 105
  | 102 => 106
  | n => n, fun n => n⟩
theorem sr_lays : SlLaysE0.n35 Try.prog srRen := {
  mixed := by kernel_rfl
  f35 := ⟨"slices.Reverse[[]carom/api.Vec,carom/api.Vec]", by decide, by kernel_rfl⟩
  t0 := by kernel_rfl
  a0 := fun _ => by kernel_rfl
  z0 := fun _ => by kernel_rfl
  v0 := fun _ => by kernel_rfl
  t3 := by kernel_rfl
  a3 := fun _ => by kernel_rfl
  z3 := fun _ => by kernel_rfl
  v3 := fun _ => by kernel_rfl
  t4 := by kernel_rfl
  a4 := fun _ => by kernel_rfl
  z4 := fun _ => by kernel_rfl
  v4 := fun _ => by kernel_rfl
  t22 := by kernel_rfl
  a22 := fun _ => by kernel_rfl
  z22 := fun _ => by kernel_rfl
  v22 := fun _ => by kernel_rfl }

def scRen : Go.Shelf.Ren := ⟨fun
  | 122 => 55
  | 215 => 80
  | n => n, fun
  | 3 => 3
  | 4 => 4
  | n => n, fun

  | n => n⟩
theorem sc_122 : Lays.n122 Try.prog scRen := {
  mixed := by kernel_rfl
  f122 := by kernel_rfl
  f215 := by kernel_rfl
  t3 := by kernel_rfl
  a3 := fun _ => by kernel_rfl
  z3 := fun _ => by kernel_rfl
  v3 := fun _ => by kernel_rfl
  t4 := by kernel_rfl
  a4 := fun _ => by kernel_rfl
  z4 := fun _ => by kernel_rfl
  v4 := fun _ => by kernel_rfl }

/-- Draws and new blocks. -/
theorem gr_of {w w' : World} (h : Below w.heap.size w w') (hd : w.drawn ≤ w'.drawn) : ∃ q os', w' = Go.Sort.grow (w.drewN q) os' := by
  obtain ⟨p, hp⟩ := gw_of_below h
  have e : ∀ (p : Gw), (gw w p).drawn = p.d := fun p => by unfold gw; rfl
  have hdr : w'.drawn = p.d := by rw [hp, e]
  refine ⟨p.d - w.drawn, p.os, ?_⟩
  rw [hp, drewN_gw]
  have h2 : w.drawn + (p.d - w.drawn) = p.d := by omega
  rw [h2]
  unfold gw Go.Sort.grow
  simp
theorem drawn_drewN (w : World) (n : Nat) : (w.drewN n).drawn = w.drawn + n := by rw [drewN_gw]; unfold gw; rfl
theorem dr_call {P : Program} {f : FuncId} {args : Array Value} {W : World} {n : Nat} {v : Value} (h : Calls P f args (W.drewN n) fun e w' => e = .returned v ∧ w' = W.drewN n) : Calls P f args (W.drewN n) fun e w'' => e = .returned v ∧ ∃ m : Nat, w'' = W.drewN m :=
  h.mono fun _ _ ⟨he, hw⟩ => ⟨he, n, hw⟩

theorem gocmp_b (x y : Int) (w : World) : Calls Try.prog 55 #[.int .i64 x, .int .i64 y] w fun e w' => e = .returned (.int .i64 (Lib.compareInt x y)) ∧ w' = w := Any.cmp_Compare_int sc_122 x y w

set_option maxHeartbeats 4000000 in
theorem or_b (c1 c2 : Int) (b : Nat) (t : TypeId) (w : World) (h : blk w b #[.int .i64 c1, .int .i64 c2] t) : Calls Try.prog 54 #[.slice (some ⟨b, 0, none⟩) 2 2] w fun e w' => e = .returned (.int .i64 (if c1 = 0 then c2 else c1)) ∧ w' = w := by
  obtain ⟨R, hR⟩ : ∃ R, Hid ((if c1 = 0 then c2 else c1) = R) := ⟨_, rfl⟩
  rw [hR.out]
  have oh := blk_older h
  have ch_0 : _ = some _ := blk_cell h 0
  have ch_1 : _ = some _ := blk_cell h 1
  have fh_0 := blk_free h 0
  have fh_1 := blk_free h 1
  go_enter Try.func54, Try.ntmps54
  go_wp2_with fail
  go_loopw [8] (fun i wr => ∃ k : Nat, k ≤ 2 ∧ i = .int .i64 (k : Int) ∧ (0 < k → c1 = 0) ∧ (1 < k → c2 = 0) ∧ wr = w)
    (fun i _ => (2 - intOf i).toNat)
  case atStart => exact ⟨0, by omega, rfl, by omega, by omega, rfl⟩
  case round =>
    obtain ⟨k, hk, rfl, h1, h2, rfl⟩ := hrel
    by_cases k0 : k = 0
    · subst k0
      by_cases c : c1 = 0
      · have b1 : (c1 != 0) = false := by rw [bne_eq_false_iff_eq]; exact c
        clear hR
        go_wp2_with fail
        exact ⟨⟨1, by omega, by go_num, fun _ => c, by omega, by first | trivial | rfl⟩, by (try go_num); simp [intOf]; (try omega)⟩
      · have b1 : (c1 != 0) = true := by rw [bne_iff_ne]; exact c
        have e := hR.out; rw [if_neg c] at e; subst e
        clear hR
        go_wp2_with fail
        exact bodyPost_ret (v := .int .i64 c1) (by simp [results, Try.results54, go_sem]) rfl ⟨rfl, rfl⟩
    by_cases k1 : k = 1
    · subst k1
      have hc1 := h1 (by omega)
      by_cases c : c2 = 0
      · have b1 : (c2 != 0) = false := by rw [bne_eq_false_iff_eq]; exact c
        clear hR
        go_wp2_with fail
        exact ⟨⟨2, by omega, by go_num, fun _ => hc1, fun _ => c, by first | trivial | rfl⟩, by (try go_num); simp [intOf]; (try omega)⟩
      · have b1 : (c2 != 0) = true := by rw [bne_iff_ne]; exact c
        have e := hR.out; rw [if_pos hc1] at e; subst e
        clear hR
        go_wp2_with fail
        exact bodyPost_ret (v := .int .i64 c2) (by simp [results, Try.results54, go_sem]) rfl ⟨rfl, rfl⟩
    obtain rfl : k = 2 := by omega
    have hc1 := h1 (by omega)
    have hc2 := h2 (by omega)
    have e := hR.out; rw [if_pos hc1, hc2] at e; subst e
    clear hR
    go_wp2_with fail
    exact bodyPost_ret (v := .int .i64 0) (by simp [results, Try.results54, go_sem]) rfl ⟨rfl, rfl⟩

/-- First by X, then by Y. -/
def lexC (a b : Pt) : Int := if Lib.compareInt a.1 b.1 = 0 then Lib.compareInt a.2 b.2 else Lib.compareInt a.1 b.1
theorem lexC_lt {a b : Pt} : lexC a b < 0 ↔ lexLt a b := by
  rw [lexLt_iff]
  unfold lexC Lib.compareInt
  (repeat' split) <;> omega
theorem lexC_swo : Go.Sort.SWO (ltOf lexC) := by
  have e : ∀ a b : Pt, ltOf lexC a b = decide (a.1 < b.1 ∨ (a.1 = b.1 ∧ a.2 < b.2)) := fun a b => by
    unfold ltOf; rw [decide_eq_decide, lexC_lt, lexLt_iff]
  refine ⟨fun x => ?_, fun x y z => ?_, fun x y z => ?_⟩
  · rw [e]; simp
  · rw [e, e, e]; simp only [decide_eq_true_eq]; omega
  · rw [e, e, e]; simp only [decide_eq_false_iff_not]; omega
theorem lexC_tot (x y : Pt) (h1 : (ltOf lexC) x y = false) (h2 : (ltOf lexC) y x = false) : x = y := by
  unfold ltOf at h1 h2
  rw [decide_eq_false_iff_not, lexC_lt, lexLt_iff] at h1 h2
  exact Prod.ext (by omega) (by omega)

set_option maxRecDepth 100000 in
set_option maxHeartbeats 4000000 in
theorem cxy_b (ax ay bx b_y : Int) (w : World) : Calls Try.prog 29 #[.agg #[.int .i64 ax, .int .i64 ay], .agg #[.int .i64 bx, .int .i64 b_y]] w fun e w' => e = .returned (.int .i64 (lexC (ax, ay) (bx, b_y))) ∧ ∃ q os', w' = Go.Sort.grow (w.drewN q) os' := by
  have hC : lexC (ax, ay) (bx, b_y) = if Lib.compareInt ax bx = 0 then Lib.compareInt ay b_y else Lib.compareInt ax bx := rfl
  have c1 := fun w' => gocmp_b ax bx w'
  have c2 := fun w' => gocmp_b ay b_y w'
  have cO := fun b t w' h => or_b (Lib.compareInt ax bx) (Lib.compareInt ay b_y) b t w' h
  rw [← hC] at cO
  clear hC
  generalize lexC (ax, ay) (bx, b_y) = R at *
  generalize Lib.compareInt ax bx = u at *
  generalize Lib.compareInt ay b_y = v at *
  go_enter Try.func29, Try.ntmps29
  go_upto_region 1 with fail
  refine wp_named ?_
  intro W hW
  have kA : blk W w.heap.size #[.int .i64 ax, .int .i64 ay] 27 := by rw [hW]; exact (by repeat (first | with_reducible exact blk_new _ _ _ | ((with_reducible refine blk_at ?_); (simp; done)) | with_reducible apply blk_alloc | with_reducible apply blk_gw | with_reducible apply blk_drew))
  have kB : blk W (w.heap.size + 1) #[.int .i64 bx, .int .i64 b_y] 27 := by rw [hW]; exact (by repeat (first | with_reducible exact blk_new _ _ _ | ((with_reducible refine blk_at ?_); (simp; done)) | with_reducible apply blk_alloc | with_reducible apply blk_gw | with_reducible apply blk_drew))
  have hbW : Below w.heap.size w W := by rw [hW]; exact (by repeat (first | with_reducible exact Below.refl _ _ | with_reducible assumption | refine bgw ?_ (by first | (simp; done) | (simp; omega) | omega) _ | refine Below.setCell ?_ (by first | exact Nat.le_of_not_lt (by assumption) | (simp; done) | (simp; omega) | omega) _ | refine Below.alloc ?_ (by first | (simp; done) | (simp; omega) | omega) _ | refine Below.drew ?_))
  have hdW : w.drawn ≤ W.drawn := by rw [hW]; exact Nat.le_refl _
  clear hW
  have okA := blk_older kA
  have ckA_0 : _ = some _ := blk_cell kA 0
  have ckA_1 : _ = some _ := blk_cell kA 1
  have fkA_0 := blk_free kA 0
  have fkA_1 := blk_free kA 1
  have okB := blk_older kB
  have ckB_0 : _ = some _ := blk_cell kB 0
  have ckB_1 : _ = some _ := blk_cell kB 1
  have fkB_0 := blk_free kB 0
  have fkB_1 := blk_free kB 1
  have hszW := hbW.size
  refine wp_region_tail (C := fun w' => ∃ n : Nat, w' = W.drewN n) 10 (by kernel_rfl) (by kernel_rfl) ⟨1, rfl⟩ ?_
  simp only [List.take_succ_cons, List.take_zero, List.drop_succ_cons, List.drop_zero]
  repeat (go_big_quiet_step (first | (go_at_call 55; with_reducible_and_instances exact dr_call (c1 _)) | (go_at_call 55; with_reducible_and_instances exact dr_call (c2 _))))
  refine wpQuiet_nil ?_
  intro w1 hw1
  obtain ⟨n, rfl⟩ := hw1
  have hbN : Below w.heap.size w (W.drewN n) := by rw [drewN_gw]; exact bgw hbW hszW _
  have hdN : w.drawn ≤ (W.drewN n).drawn := by rw [drawn_drewN]; omega
  have hzN := hbN.size
  generalize W.drewN n = V at *
  go_wp2_with (go_at_call 54; refine Calls.mono (cO _ 3 _ (by repeat (first | with_reducible exact blk_new _ _ _ | ((with_reducible refine blk_at ?_); (simp; done)) | with_reducible apply blk_alloc | with_reducible apply blk_gw | with_reducible apply blk_drew))) ?_; rintro e w1 ⟨rfl, rfl⟩)
  exact bodyPost_ret (v := .int .i64 R) (by simp [results, Try.results29, go_sem]) rfl ⟨rfl, gr_of (by repeat (first | with_reducible exact Below.refl _ _ | with_reducible assumption | refine bgw ?_ (by first | (simp; done) | (simp; omega) | omega) _ | refine Below.setCell ?_ (by first | exact Nat.le_of_not_lt (by assumption) | (simp; done) | (simp; omega) | omega) _ | refine Below.alloc ?_ (by first | (simp; done) | (simp; omega) | omega) _ | refine Below.drew ?_)) hdN⟩

end Go.Proofs.Ytncijpaooiopfaa
