/- Chapter 21: sorting with a comparison function: entries and pairs. -/
import Derived.Test.YtaahgblkmajceaaGreatSg1
import Derived.Shelf.SlSortCmp.NoneTotal
import Derived.Shelf.Small.Wraps
import Derived.Shelf.SlGeneric
set_option linter.unusedVariables false
set_option linter.unusedSimpArgs false
namespace Go.Proofs.YtaahgblkmajceaaGreat
open Go.RowKit Fx

def seRen : Go.Shelf.Ren := ⟨fun
  | 6 => 52
  | 14 => 71
  | 15 => 56
  | 20 => 93
  | 21 => 94
  | 22 => 95
  | 23 => 96
  | 24 => 97
  | 25 => 98
  | 26 => 99
  | 27 => 100
  | 28 => 80
  | 29 => 81
  | 46 => 132
  | 47 => 102
  | 48 => 103
  | 49 => 133
  | 50 => 134
  | 57 => 160
  | n => n, fun
  | 0 => 0
  | 1 => 1
  | 2 => 2
  | 3 => 3
  | 4 => 4
  | 5 => 5
  | 6 => 6
  | 8 => 8
  | 9 => 9
  | 10 => 10
  | 11 => 11
  | 12 => 12
  | 14 => 14
  | 15 => 15
  | 16 => 16
  | 17 => 17
  | 19 => 19
  | 21 => 21
  | 22 => 38
  | 23 => 103
  | 24 => 46
  | 25 => 104
  | 27 => 94
  | 29 => 91
  | 30 => 110
  | 37 => 117
  | 38 => 107
  | 39 => 108
  | 40 => 105
  | 42 => 109
  | 44 => 139
  | 45 => 119
  | 46 => 120
  | 47 => 140
  | 48 => 141
  | 49 => 142
  | 50 => 124
  | 51 => 143
  | 52 => 126
  | 53 => 127
  | 54 => 128
  | 55 => 129
  | 66 => 144
  | 67 => 145
  | 68 => 146
  | 69 => 164
  | 70 => 148
  | 71 => 165
  | 76 => 166
  | 77 => 167
  | 78 => 176
  | 81 => 184
  | 83 => 186
  | 84 => 187
  | 86 => 189
  | 87 => 190
  | 88 => 191
  | 89 => 192
  | 90 => 193
  | 91 => 194
  | 92 => 195
  | 93 => 196
  | 95 => 198
  | 96 => 199
  | n => n, fun n => n⟩
theorem se_lays : SlLaysF0.n6 Tryz.prog seRen := {
  mixed := by kernel_rfl
  f6 := ⟨"slices.SortFunc[[]carom/sap.Entry,carom/sap.Entry]", by decide, by kernel_rfl⟩
  f14 := ⟨"slices.pdqsortCmpFunc[carom/sap.Entry]", by decide, by kernel_rfl⟩
  f15 := by kernel_rfl
  f20 := ⟨"slices.insertionSortCmpFunc[carom/sap.Entry]", by decide, by kernel_rfl⟩
  f21 := ⟨"slices.heapSortCmpFunc[carom/sap.Entry]", by decide, by kernel_rfl⟩
  f22 := ⟨"slices.breakPatternsCmpFunc[carom/sap.Entry]", by decide, by kernel_rfl⟩
  f23 := ⟨"slices.choosePivotCmpFunc[carom/sap.Entry]", by decide, by kernel_rfl⟩
  f24 := ⟨"slices.reverseRangeCmpFunc[carom/sap.Entry]", by decide, by kernel_rfl⟩
  f25 := ⟨"slices.partialInsertionSortCmpFunc[carom/sap.Entry]", by decide, by kernel_rfl⟩
  f26 := ⟨"slices.partitionEqualCmpFunc[carom/sap.Entry]", by decide, by kernel_rfl⟩
  f27 := ⟨"slices.partitionCmpFunc[carom/sap.Entry]", by decide, by kernel_rfl⟩
  f28 := by kernel_rfl
  f29 := by kernel_rfl
  f46 := ⟨"slices.siftDownCmpFunc[carom/sap.Entry]", by decide, by kernel_rfl⟩
  f47 := by kernel_rfl
  f48 := by kernel_rfl
  f49 := ⟨"slices.medianAdjacentCmpFunc[carom/sap.Entry]", by decide, by kernel_rfl⟩
  f50 := ⟨"slices.medianCmpFunc[carom/sap.Entry]", by decide, by kernel_rfl⟩
  f57 := ⟨"slices.order2CmpFunc[carom/sap.Entry]", by decide, by kernel_rfl⟩
  t0 := by kernel_rfl
  a0 := fun _ => by kernel_rfl
  z0 := fun _ => by kernel_rfl
  v0 := fun _ => by kernel_rfl
  t3 := by kernel_rfl
  a3 := fun _ => by kernel_rfl
  z3 := fun _ => by kernel_rfl
  v3 := fun _ => by kernel_rfl
  t4 := by kernel_rfl
  a4 := fun _ => by kernel_rfl
  z4 := fun _ => by kernel_rfl
  v4 := fun _ => by kernel_rfl
  t5 := by kernel_rfl
  a5 := fun _ => by kernel_rfl
  z5 := fun _ => by kernel_rfl
  v5 := fun _ => by kernel_rfl
  t9 := by kernel_rfl
  a9 := fun _ => by kernel_rfl
  z9 := fun _ => by kernel_rfl
  v9 := fun _ => by kernel_rfl
  t22 := by kernel_rfl
  a22 := fun _ => by kernel_rfl
  z22 := fun _ => by kernel_rfl
  v22 := fun _ => by kernel_rfl
  t25 := by kernel_rfl
  a25 := fun _ => by kernel_rfl
  z25 := fun _ => by kernel_rfl
  v25 := fun _ => by kernel_rfl
  t39 := by kernel_rfl
  a39 := fun _ => by kernel_rfl
  z39 := fun _ => by kernel_rfl
  v39 := fun _ => by kernel_rfl
  t45 := by kernel_rfl
  a45 := fun _ => by kernel_rfl
  z45 := fun _ => by kernel_rfl
  v45 := fun _ => by kernel_rfl
  t46 := by kernel_rfl
  a46 := fun _ => by kernel_rfl
  z46 := fun _ => by kernel_rfl
  v46 := fun _ => by kernel_rfl
  t50 := by kernel_rfl
  a50 := fun _ => by kernel_rfl
  z50 := fun _ => by kernel_rfl
  v50 := fun _ => by kernel_rfl
  t53 := by kernel_rfl
  a53 := fun _ => by kernel_rfl
  z53 := fun _ => by kernel_rfl
  v53 := fun _ => by kernel_rfl
  t55 := by kernel_rfl
  a55 := fun _ => by kernel_rfl
  z55 := fun _ => by kernel_rfl
  v55 := fun _ => by kernel_rfl
  t66 := by kernel_rfl
  a66 := fun _ => by kernel_rfl
  z66 := fun _ => by kernel_rfl
  v66 := fun _ => by kernel_rfl
  t70 := by kernel_rfl
  a70 := fun _ => by kernel_rfl
  z70 := fun _ => by kernel_rfl
  v70 := fun _ => by kernel_rfl
  t76 := by kernel_rfl
  a76 := fun _ => by kernel_rfl
  z76 := fun _ => by kernel_rfl
  v76 := fun _ => by kernel_rfl
  t77 := by kernel_rfl
  a77 := fun _ => by kernel_rfl
  z77 := fun _ => by kernel_rfl
  v77 := fun _ => by kernel_rfl }

def spRen : Go.Shelf.Ren := ⟨fun
  | 6 => 39
  | 14 => 55
  | 15 => 56
  | 20 => 72
  | 21 => 73
  | 22 => 74
  | 23 => 75
  | 24 => 76
  | 25 => 77
  | 26 => 78
  | 27 => 79
  | 28 => 80
  | 29 => 81
  | 46 => 101
  | 47 => 102
  | 48 => 103
  | 49 => 104
  | 50 => 105
  | 57 => 135
  | n => n, fun
  | 0 => 0
  | 1 => 1
  | 2 => 2
  | 3 => 3
  | 4 => 4
  | 5 => 5
  | 6 => 6
  | 8 => 8
  | 9 => 9
  | 10 => 10
  | 11 => 11
  | 12 => 12
  | 14 => 14
  | 15 => 15
  | 16 => 16
  | 17 => 17
  | 19 => 19
  | 21 => 21
  | 22 => 47
  | 23 => 84
  | 24 => 49
  | 25 => 85
  | 27 => 94
  | 29 => 91
  | 30 => 110
  | 37 => 106
  | 38 => 107
  | 39 => 108
  | 42 => 109
  | 44 => 118
  | 45 => 119
  | 46 => 120
  | 47 => 121
  | 48 => 122
  | 49 => 123
  | 50 => 124
  | 51 => 125
  | 52 => 126
  | 53 => 127
  | 54 => 128
  | 55 => 129
  | 66 => 144
  | 67 => 145
  | 68 => 146
  | 69 => 147
  | 70 => 148
  | 71 => 149
  | 76 => 166
  | 77 => 167
  | 78 => 168
  | 81 => 184
  | 83 => 186
  | 84 => 187
  | 86 => 189
  | 87 => 190
  | 88 => 191
  | 89 => 192
  | 90 => 193
  | 91 => 194
  | 92 => 195
  | 93 => 196
  | 95 => 198
  | 96 => 199
  | n => n, fun n => n⟩
theorem sp_lays : SlLaysF0.n6 Tryz.prog spRen := {
  mixed := by kernel_rfl
  f6 := ⟨"slices.SortFunc[[][2]int,[2]int]", by decide, by kernel_rfl⟩
  f14 := ⟨"slices.pdqsortCmpFunc[[2]int]", by decide, by kernel_rfl⟩
  f15 := by kernel_rfl
  f20 := ⟨"slices.insertionSortCmpFunc[[2]int]", by decide, by kernel_rfl⟩
  f21 := ⟨"slices.heapSortCmpFunc[[2]int]", by decide, by kernel_rfl⟩
  f22 := ⟨"slices.breakPatternsCmpFunc[[2]int]", by decide, by kernel_rfl⟩
  f23 := ⟨"slices.choosePivotCmpFunc[[2]int]", by decide, by kernel_rfl⟩
  f24 := ⟨"slices.reverseRangeCmpFunc[[2]int]", by decide, by kernel_rfl⟩
  f25 := ⟨"slices.partialInsertionSortCmpFunc[[2]int]", by decide, by kernel_rfl⟩
  f26 := ⟨"slices.partitionEqualCmpFunc[[2]int]", by decide, by kernel_rfl⟩
  f27 := ⟨"slices.partitionCmpFunc[[2]int]", by decide, by kernel_rfl⟩
  f28 := by kernel_rfl
  f29 := by kernel_rfl
  f46 := ⟨"slices.siftDownCmpFunc[[2]int]", by decide, by kernel_rfl⟩
  f47 := by kernel_rfl
  f48 := by kernel_rfl
  f49 := ⟨"slices.medianAdjacentCmpFunc[[2]int]", by decide, by kernel_rfl⟩
  f50 := ⟨"slices.medianCmpFunc[[2]int]", by decide, by kernel_rfl⟩
  f57 := ⟨"slices.order2CmpFunc[[2]int]", by decide, by kernel_rfl⟩
  t0 := by kernel_rfl
  a0 := fun _ => by kernel_rfl
  z0 := fun _ => by kernel_rfl
  v0 := fun _ => by kernel_rfl
  t3 := by kernel_rfl
  a3 := fun _ => by kernel_rfl
  z3 := fun _ => by kernel_rfl
  v3 := fun _ => by kernel_rfl
  t4 := by kernel_rfl
  a4 := fun _ => by kernel_rfl
  z4 := fun _ => by kernel_rfl
  v4 := fun _ => by kernel_rfl
  t5 := by kernel_rfl
  a5 := fun _ => by kernel_rfl
  z5 := fun _ => by kernel_rfl
  v5 := fun _ => by kernel_rfl
  t9 := by kernel_rfl
  a9 := fun _ => by kernel_rfl
  z9 := fun _ => by kernel_rfl
  v9 := fun _ => by kernel_rfl
  t22 := by kernel_rfl
  a22 := fun _ => by kernel_rfl
  z22 := fun _ => by kernel_rfl
  v22 := fun _ => by kernel_rfl
  t25 := by kernel_rfl
  a25 := fun _ => by kernel_rfl
  z25 := fun _ => by kernel_rfl
  v25 := fun _ => by kernel_rfl
  t39 := by kernel_rfl
  a39 := fun _ => by kernel_rfl
  z39 := fun _ => by kernel_rfl
  v39 := fun _ => by kernel_rfl
  t45 := by kernel_rfl
  a45 := fun _ => by kernel_rfl
  z45 := fun _ => by kernel_rfl
  v45 := fun _ => by kernel_rfl
  t46 := by kernel_rfl
  a46 := fun _ => by kernel_rfl
  z46 := fun _ => by kernel_rfl
  v46 := fun _ => by kernel_rfl
  t50 := by kernel_rfl
  a50 := fun _ => by kernel_rfl
  z50 := fun _ => by kernel_rfl
  v50 := fun _ => by kernel_rfl
  t53 := by kernel_rfl
  a53 := fun _ => by kernel_rfl
  z53 := fun _ => by kernel_rfl
  v53 := fun _ => by kernel_rfl
  t55 := by kernel_rfl
  a55 := fun _ => by kernel_rfl
  z55 := fun _ => by kernel_rfl
  v55 := fun _ => by kernel_rfl
  t66 := by kernel_rfl
  a66 := fun _ => by kernel_rfl
  z66 := fun _ => by kernel_rfl
  v66 := fun _ => by kernel_rfl
  t70 := by kernel_rfl
  a70 := fun _ => by kernel_rfl
  z70 := fun _ => by kernel_rfl
  v70 := fun _ => by kernel_rfl
  t76 := by kernel_rfl
  a76 := fun _ => by kernel_rfl
  z76 := fun _ => by kernel_rfl
  v76 := fun _ => by kernel_rfl
  t77 := by kernel_rfl
  a77 := fun _ => by kernel_rfl
  z77 := fun _ => by kernel_rfl
  v77 := fun _ => by kernel_rfl }

def sc21Ren : Go.Shelf.Ren := ⟨fun
  | 122 => 42
  | 215 => 57
  | n => n, fun
  | 3 => 3
  | 4 => 4
  | n => n, fun

  | n => n⟩
theorem sc21_122 : Lays.n122 Tryz.prog sc21Ren := {
  mixed := by kernel_rfl
  f122 := by kernel_rfl
  f215 := by kernel_rfl
  t3 := by kernel_rfl
  a3 := fun _ => by kernel_rfl
  z3 := fun _ => by kernel_rfl
  v3 := fun _ => by kernel_rfl
  t4 := by kernel_rfl
  a4 := fun _ => by kernel_rfl
  z4 := fun _ => by kernel_rfl
  v4 := fun _ => by kernel_rfl }

/-- Draws and new blocks. -/
theorem gr21_of {w w' : World} (h : Below w.heap.size w w') (hd : w.drawn ≤ w'.drawn) : ∃ q os', w' = Go.Sort.grow (w.drewN q) os' := by
  obtain ⟨p, hp⟩ := gw_of_below h
  have e : ∀ (p : Gw), (gw w p).drawn = p.d := fun p => by unfold gw; rfl
  have hdr : w'.drawn = p.d := by rw [hp, e]
  refine ⟨p.d - w.drawn, p.os, ?_⟩
  rw [hp, drewN_gw]
  have h2 : w.drawn + (p.d - w.drawn) = p.d := by omega
  rw [h2]
  unfold gw Go.Sort.grow
  simp
theorem drawn21_drewN (w : World) (n : Nat) : (w.drewN n).drawn = w.drawn + n := by rw [drewN_gw]; unfold gw; rfl
theorem dr21_call {P : Program} {f : FuncId} {args : Array Value} {W : World} {n : Nat} {v : Value} (h : Calls P f args (W.drewN n) fun e w' => e = .returned v ∧ w' = W.drewN n) : Calls P f args (W.drewN n) fun e w'' => e = .returned v ∧ ∃ m : Nat, w'' = W.drewN m :=
  h.mono fun _ _ ⟨he, hw⟩ => ⟨he, n, hw⟩

theorem gocmp21_b (x y : Int) (w : World) : Calls Tryz.prog 42 #[.int .i64 x, .int .i64 y] w fun e w' => e = .returned (.int .i64 (Lib.compareInt x y)) ∧ w' = w := Any.cmp_Compare_int sc21_122 x y w

set_option maxHeartbeats 4000000 in
theorem or21_b (c1 c2 : Int) (b : Nat) (t : TypeId) (w : World) (h : blk w b #[.int .i64 c1, .int .i64 c2] t) : Calls Tryz.prog 41 #[.slice (some ⟨b, 0, none⟩) 2 2] w fun e w' => e = .returned (.int .i64 (if c1 = 0 then c2 else c1)) ∧ w' = w := by
  obtain ⟨R, hR⟩ : ∃ R, Hid ((if c1 = 0 then c2 else c1) = R) := ⟨_, rfl⟩
  rw [hR.out]
  have oh := blk_older h
  have ch_0 : _ = some _ := blk_cell h 0
  have ch_1 : _ = some _ := blk_cell h 1
  have fh_0 := blk_free h 0
  have fh_1 := blk_free h 1
  go_enter Tryz.func41, Tryz.ntmps41
  go_wp2_with fail
  go_loopw [8] (fun i wr => ∃ k : Nat, k ≤ 2 ∧ i = .int .i64 (k : Int) ∧ (0 < k → c1 = 0) ∧ (1 < k → c2 = 0) ∧ wr = w)
    (fun i _ => (2 - intOf i).toNat)
  case atStart => exact ⟨0, by omega, rfl, by omega, by omega, rfl⟩
  case round =>
    obtain ⟨k, hk, rfl, h1, h2, rfl⟩ := hrel
    by_cases k0 : k = 0
    · subst k0
      by_cases c : c1 = 0
      · have b1 : (c1 != 0) = false := by rw [bne_eq_false_iff_eq]; exact c
        clear hR
        go_wp2_with fail
        exact ⟨⟨1, by omega, by go_num, fun _ => c, by omega, by first | trivial | rfl⟩, by (try go_num); simp [intOf]; (try omega)⟩
      · have b1 : (c1 != 0) = true := by rw [bne_iff_ne]; exact c
        have e := hR.out; rw [if_neg c] at e; subst e
        clear hR
        go_wp2_with fail
        exact bodyPost_ret (v := .int .i64 c1) (by simp [results, Tryz.results41, go_sem]) rfl ⟨rfl, rfl⟩
    by_cases k1 : k = 1
    · subst k1
      have hc1 := h1 (by omega)
      by_cases c : c2 = 0
      · have b1 : (c2 != 0) = false := by rw [bne_eq_false_iff_eq]; exact c
        clear hR
        go_wp2_with fail
        exact ⟨⟨2, by omega, by go_num, fun _ => hc1, fun _ => c, by first | trivial | rfl⟩, by (try go_num); simp [intOf]; (try omega)⟩
      · have b1 : (c2 != 0) = true := by rw [bne_iff_ne]; exact c
        have e := hR.out; rw [if_pos hc1] at e; subst e
        clear hR
        go_wp2_with fail
        exact bodyPost_ret (v := .int .i64 c2) (by simp [results, Tryz.results41, go_sem]) rfl ⟨rfl, rfl⟩
    obtain rfl : k = 2 := by omega
    have hc1 := h1 (by omega)
    have hc2 := h2 (by omega)
    have e := hR.out; rw [if_pos hc1, hc2] at e; subst e
    clear hR
    go_wp2_with fail
    exact bodyPost_ret (v := .int .i64 0) (by simp [results, Tryz.results41, go_sem]) rfl ⟨rfl, rfl⟩


/-- How two entries compare. -/
def cE (a b : En) : Int := if Lib.compareInt a.2.x0 b.2.x0 = 0 then Lib.compareInt a.1 b.1 else Lib.compareInt a.2.x0 b.2.x0
theorem cE_lt {a b : En} : cE a b < 0 ↔ ltE a b := by
  unfold cE ltE Lib.compareInt
  (repeat' split) <;> omega
theorem cE_swo : Go.Sort.SWO (ltOf cE) := by
  have e : ∀ a b : En, ltOf cE a b = decide (ltE a b) := fun a b => by unfold ltOf; rw [decide_eq_decide, cE_lt]
  refine ⟨fun x => ?_, fun x y z => ?_, fun x y z => ?_⟩
  · rw [e, decide_eq_false_iff_not]; exact ltE_irr x
  · rw [e, e, e]; simp only [decide_eq_true_eq]; exact ltE_trans x y z
  · rw [e, e, e]; simp only [decide_eq_false_iff_not]; unfold ltE; omega
/-- How two pairs compare. -/
def cP (a b : Pr) : Int := if Lib.compareInt a.1 b.1 = 0 then Lib.compareInt a.2 b.2 else Lib.compareInt a.1 b.1
theorem cP_lt {a b : Pr} : cP a b < 0 ↔ ltP a b := by
  unfold cP ltP Lib.compareInt
  (repeat' split) <;> omega
theorem cP_swo : Go.Sort.SWO (ltOf cP) := by
  have e : ∀ a b : Pr, ltOf cP a b = decide (ltP a b) := fun a b => by unfold ltOf; rw [decide_eq_decide, cP_lt]
  refine ⟨fun x => ?_, fun x y z => ?_, fun x y z => ?_⟩
  · rw [e, decide_eq_false_iff_not]; exact ltP_irr x
  · rw [e, e, e]; simp only [decide_eq_true_eq]; exact ltP_trans x y z
  · rw [e, e, e]; simp only [decide_eq_false_iff_not]; unfold ltP; omega

set_option maxRecDepth 100000 in
set_option maxHeartbeats 4000000 in
theorem ce_b (i0 a0 a1 a2 a3 j0 b0 b1 b2 b3 : Int) (w : World) : Calls Tryz.prog 53 #[.agg #[.int .i64 i0, .int .i64 a0, .int .i64 a1, .int .i64 a2, .int .i64 a3], .agg #[.int .i64 j0, .int .i64 b0, .int .i64 b1, .int .i64 b2, .int .i64 b3]] w fun e w' => e = .returned (.int .i64 (cE (i0, ⟨a0, a1, a2, a3⟩) (j0, ⟨b0, b1, b2, b3⟩))) ∧ ∃ q os', w' = Go.Sort.grow (w.drewN q) os' := by
  have hC : cE (i0, ⟨a0, a1, a2, a3⟩) (j0, ⟨b0, b1, b2, b3⟩) = if Lib.compareInt a0 b0 = 0 then Lib.compareInt i0 j0 else Lib.compareInt a0 b0 := rfl
  have c1 := fun w' => gocmp21_b a0 b0 w'
  have c2 := fun w' => gocmp21_b i0 j0 w'
  have cO := fun b t w' h => or21_b (Lib.compareInt a0 b0) (Lib.compareInt i0 j0) b t w' h
  rw [← hC] at cO
  clear hC
  generalize cE (i0, ⟨a0, a1, a2, a3⟩) (j0, ⟨b0, b1, b2, b3⟩) = R at *
  generalize Lib.compareInt a0 b0 = u at *
  generalize Lib.compareInt i0 j0 = v at *
  go_enter Tryz.func53, Tryz.ntmps53
  go_upto_region 1 with fail
  refine wp_named ?_
  intro W hW
  have kA : blk W w.heap.size #[.int .i64 i0, .int .i64 a0, .int .i64 a1, .int .i64 a2, .int .i64 a3] 46 := by rw [hW]; exact bBkn
  have kB : blk W (w.heap.size + 1) #[.int .i64 j0, .int .i64 b0, .int .i64 b1, .int .i64 b2, .int .i64 b3] 46 := by rw [hW]; exact bBkn
  have hbW : Below w.heap.size w W := by rw [hW]; exact bBel
  have hdW : w.drawn ≤ W.drawn := by rw [hW]; exact Nat.le_refl _
  clear hW
  have okA := blk_older kA
  have ckA_0 : _ = some _ := blk_cell kA 0
  have ckA_1 : _ = some _ := blk_cell kA 1
  have ckA_2 : _ = some _ := blk_cell kA 2
  have ckA_3 : _ = some _ := blk_cell kA 3
  have ckA_4 : _ = some _ := blk_cell kA 4
  have fkA_0 := blk_free kA 0
  have fkA_1 := blk_free kA 1
  have fkA_2 := blk_free kA 2
  have fkA_3 := blk_free kA 3
  have fkA_4 := blk_free kA 4
  have okB := blk_older kB
  have ckB_0 : _ = some _ := blk_cell kB 0
  have ckB_1 : _ = some _ := blk_cell kB 1
  have ckB_2 : _ = some _ := blk_cell kB 2
  have ckB_3 : _ = some _ := blk_cell kB 3
  have ckB_4 : _ = some _ := blk_cell kB 4
  have fkB_0 := blk_free kB 0
  have fkB_1 := blk_free kB 1
  have fkB_2 := blk_free kB 2
  have fkB_3 := blk_free kB 3
  have fkB_4 := blk_free kB 4
  have hszW := hbW.size
  refine wp_region_tail (C := fun w' => ∃ n : Nat, w' = W.drewN n) 14 (by kernel_rfl) (by kernel_rfl) ⟨1, rfl⟩ ?_
  simp only [List.take_succ_cons, List.take_zero, List.drop_succ_cons, List.drop_zero]
  repeat (go_big_quiet_step (first | (go_at_call 42; with_reducible_and_instances exact dr21_call (c1 _)) | (go_at_call 42; with_reducible_and_instances exact dr21_call (c2 _))))
  refine wpQuiet_nil ?_
  intro w1 hw1
  obtain ⟨n, rfl⟩ := hw1
  have hbN : Below w.heap.size w (W.drewN n) := by rw [drewN_gw]; exact bgw hbW hszW _
  have hdN : w.drawn ≤ (W.drewN n).drawn := by rw [drawn21_drewN]; omega
  have hzN := hbN.size
  generalize W.drewN n = V at *
  go_wp2_with (go_at_call 41; refine Calls.mono (cO _ 3 _ bBkn) ?_; rintro e w1 ⟨rfl, rfl⟩)
  exact bodyPost_ret (v := .int .i64 R) (by simp [results, Tryz.results53, go_sem]) rfl ⟨rfl, gr21_of bBel hdN⟩

set_option maxRecDepth 100000 in
set_option maxHeartbeats 4000000 in
theorem cp_b (ax ay bx b_y : Int) (w : World) : Calls Tryz.prog 40 #[.agg #[.int .i64 ax, .int .i64 ay], .agg #[.int .i64 bx, .int .i64 b_y]] w fun e w' => e = .returned (.int .i64 (cP (ax, ay) (bx, b_y))) ∧ ∃ q os', w' = Go.Sort.grow (w.drewN q) os' := by
  have hC : cP (ax, ay) (bx, b_y) = if Lib.compareInt ax bx = 0 then Lib.compareInt ay b_y else Lib.compareInt ax bx := rfl
  have c1 := fun w' => gocmp21_b ax bx w'
  have c2 := fun w' => gocmp21_b ay b_y w'
  have cO := fun b t w' h => or21_b (Lib.compareInt ax bx) (Lib.compareInt ay b_y) b t w' h
  rw [← hC] at cO
  clear hC
  generalize cP (ax, ay) (bx, b_y) = R at *
  generalize Lib.compareInt ax bx = u at *
  generalize Lib.compareInt ay b_y = v at *
  go_enter Tryz.func40, Tryz.ntmps40
  go_upto_region 1 with fail
  refine wp_named ?_
  intro W hW
  have kA : blk W w.heap.size #[.int .i64 ax, .int .i64 ay] 49 := by rw [hW]; exact bBkn
  have kB : blk W (w.heap.size + 1) #[.int .i64 bx, .int .i64 b_y] 49 := by rw [hW]; exact bBkn
  have hbW : Below w.heap.size w W := by rw [hW]; exact bBel
  have hdW : w.drawn ≤ W.drawn := by rw [hW]; exact Nat.le_refl _
  clear hW
  have okA := blk_older kA
  have ckA_0 : _ = some _ := blk_cell kA 0
  have ckA_1 : _ = some _ := blk_cell kA 1
  have fkA_0 := blk_free kA 0
  have fkA_1 := blk_free kA 1
  have okB := blk_older kB
  have ckB_0 : _ = some _ := blk_cell kB 0
  have ckB_1 : _ = some _ := blk_cell kB 1
  have fkB_0 := blk_free kB 0
  have fkB_1 := blk_free kB 1
  have hszW := hbW.size
  refine wp_region_tail (C := fun w' => ∃ n : Nat, w' = W.drewN n) 10 (by kernel_rfl) (by kernel_rfl) ⟨1, rfl⟩ ?_
  simp only [List.take_succ_cons, List.take_zero, List.drop_succ_cons, List.drop_zero]
  repeat (go_big_quiet_step (first | (go_at_call 42; with_reducible_and_instances exact dr21_call (c1 _)) | (go_at_call 42; with_reducible_and_instances exact dr21_call (c2 _))))
  refine wpQuiet_nil ?_
  intro w1 hw1
  obtain ⟨n, rfl⟩ := hw1
  have hbN : Below w.heap.size w (W.drewN n) := by rw [drewN_gw]; exact bgw hbW hszW _
  have hdN : w.drawn ≤ (W.drewN n).drawn := by rw [drawn21_drewN]; omega
  have hzN := hbN.size
  generalize W.drewN n = V at *
  go_wp2_with (go_at_call 41; refine Calls.mono (cO _ 3 _ bBkn) ?_; rintro e w1 ⟨rfl, rfl⟩)
  exact bodyPost_ret (v := .int .i64 R) (by simp [results, Tryz.results40, go_sem]) rfl ⟨rfl, gr21_of bBel hdN⟩

section
open Go.Sort
theorem flatK_of {F : Type} [Inhabited F] {c : F → List Value} {k : Nat} (hc : ∀ f, (c f).length = k) (l : List F) : flatK c k l.toArray = (l.flatMap c).toArray := by
  apply Array.ext_getElem?
  intro t
  by_cases h : t < l.length * k
  · have hk : 0 < k := by rcases Nat.eq_zero_or_pos k with rfl | h'; simp at h; exact h'
    have h1 : t < (flatK c k l.toArray).size := by simpa using h
    have hi : t / k < l.length := Nat.div_lt_of_lt_mul (by rw [Nat.mul_comm]; exact h)
    have hm : t % k < k := Nat.mod_lt _ hk
    have ht : t / k * k + t % k = t := by rw [Nat.mul_comm]; exact Nat.div_add_mod t k
    have g := flat_get hc l (t / k) hi (t % k) hm
    rw [ht] at g
    rw [Array.getElem?_eq_getElem h1, ← getElem!_pos (flatK c k l.toArray) t h1, get_flatK _ _ _ t (by simpa using h), getElem!_pos l.toArray (t / k) (by simpa using hi)]
    simp only [List.getElem_toArray, List.getElem?_toArray]
    rw [g, getElem!_pos (c l[t / k]) (t % k) (by rw [hc]; exact hm), List.getElem?_eq_getElem]
  · rw [Array.getElem?_eq_none (by simp; omega), Array.getElem?_eq_none (by simp [flat_len hc]; omega)]
theorem owns_holdsK {F : Type} [Inhabited F] {c : F → List Value} {k : Nat} (hc : ∀ f, (c f).length = k) {w : World} {B : Nat} {e : TypeId} {g cap n : Nat} {l : List F} (h : w.ownsRow B e k (.slice (some ⟨g, 0, none⟩) n cap) n (l.flatMap c)) : HoldsK c k w g 0 l.toArray := by
  obtain ⟨hl, ⟨h0, -⟩ | ⟨g', cap', cur, hv, hb, hh, hn, hm, hcz, ht⟩⟩ := h
  · cases h0
  · simp only [Value.slice.injEq, Option.some.injEq, Addr.mk.injEq, and_true, true_and] at hv
    obtain ⟨rfl, rfl⟩ := hv
    have hk : blk w g cur e := hh
    unfold HoldsK Holds
    rw [flatK_of hc]
    intro j hj
    have hj' : j < (l.flatMap c).length := by simpa using hj
    rw [Nat.zero_add, blk_cell hk, blk_free hk, getElem!_pos (l.flatMap c).toArray j hj]
    refine ⟨?_, rfl⟩
    have e1 : (cur.toList.take (n * k))[j]? = (l.flatMap c)[j]? := by rw [ht]
    rw [List.getElem?_take, if_pos (by rw [← hl]; exact hj'), Array.getElem?_toList] at e1
    rw [e1, List.getElem?_eq_getElem hj']
    simp
theorem owns_put {w : World} {B : Nat} {e : TypeId} {g cap n m k : Nat} {xs ys : List Value} {os : Array Obj} (h : w.ownsRow B e k (.slice (some ⟨g, 0, none⟩) n cap) n xs) (hl : ys.length = xs.length) : (grow (putRow id (Sort.ahead w m) g 0 ys.toArray) os).ownsRow B e k (.slice (some ⟨g, 0, none⟩) n cap) n ys ∧ Below B w (grow (putRow id (Sort.ahead w m) g 0 ys.toArray) os) ∧ w.grownBy (grow (putRow id (Sort.ahead w m) g 0 ys.toArray) os) (some g) := by
  obtain ⟨hl2, ⟨h0, -⟩ | ⟨g', cap', cur, hv, hb, hh, hn, hm, hcz, ht⟩⟩ := h
  · cases h0
  · simp only [Value.slice.injEq, Option.some.injEq, Addr.mk.injEq, and_true, true_and] at hv
    obtain ⟨rfl, rfl⟩ := hv
    have hg : g < w.heap.size := (Array.getElem?_eq_some_iff.1 hh).1
    refine ⟨⟨by rw [hl]; exact hl2, .inr ⟨g, cap, putCells id 0 ys.toArray cur, rfl, hb, ?_, hn, hm, by simpa [putCells] using hcz, ?_⟩⟩, ⟨rfl, rfl, rfl, by simp, fun k' hk' => ?_⟩, ⟨rfl, rfl, rfl, by simp, fun k' hk' hne => ?_⟩⟩
    · rw [heap_grow_old _ _ (by simpa using hg)]
      simp [putRow, mapBlock, Sort.ahead, Array.getElem?_modify, hh, onCells]
    · have hnk : n * k ≤ cur.size := by rw [hcz]; exact Nat.mul_le_mul_right _ hn
      apply List.ext_getElem?
      intro i
      rw [List.getElem?_take]
      by_cases hi : i < n * k
      · have hy : i < ys.length := by rw [hl, hl2]; exact hi
        rw [if_pos hi, Array.getElem?_toList, List.getElem?_eq_getElem hy]
        simp [putCells, show i < cur.size by omega, hy]
      · rw [if_neg hi, List.getElem?_eq_none (by rw [hl, hl2]; omega)]
    · rw [heap_grow_old _ _ (by simp; omega)]
      have : g ≠ k' := by omega
      simp [putRow, mapBlock, Sort.ahead, Array.getElem?_modify, this]
    · rw [heap_grow_old _ _ (by simpa using hk')]
      have : g ≠ k' := fun e => hne (by rw [e])
      simp [putRow, mapBlock, Sort.ahead, Array.getElem?_modify, this]
theorem sorted_list {F : Type} [Inhabited F] {lt : F → F → Bool} {l : List F} {d : Array F} (hp : PermIn 0 l.toArray.size l.toArray d) (hs : SortedIn lt 0 l.toArray.size d) : d.toList.Perm l ∧ d.toList.Pairwise fun a b => lt b a = false := by
  obtain ⟨h1, -, h2⟩ := hp
  have h1' : d.size = l.length := by simpa using h1
  refine ⟨by simpa [h1', List.take_of_length_le] using h2, List.pairwise_iff_getElem.2 fun i j hi hj hij => ?_⟩
  have hi' : i < d.size := by simpa using hi
  have hj' : j < d.size := by simpa using hj
  have := hs i j (Nat.zero_le _) hij (by omega)
  rw [getElem!_pos d i hi', getElem!_pos d j hj'] at this
  simpa using this
end

/-- slices.SortFunc upon an own row of entries. -/
theorem sortE_b (B : Nat) (v : Value) (l : List En) (w : World) (hn : l.length ≤ 1000000) (hd : Dst l) (hown : w.ownsRow B 46 5 v l.length (ev l)) : Calls Tryz.prog 52 #[v, .func (.func 53) #[] #[]] w fun e w' => e = .returned (.tuple #[]) ∧ w'.ownsRow B 46 5 v l.length (ev (srE l)) ∧ Below B w w' ∧ w.grownBy w' v.ownBlock := by
  obtain ⟨hl, ⟨rfl, hz⟩ | ⟨g, cap, cur, rfl, hbase, hgb, r1, r2, r3, r4⟩⟩ := id hown
  · have hxs : l = [] := List.eq_nil_of_length_eq_zero hz
    subst hxs
    refine (AnyF.slices_SortFunc_none se_lays none 0 _ w).mono ?_
    rintro e w' ⟨rfl, rfl⟩
    exact ⟨rfl, hown, Below.refl _ _, ⟨rfl, rfl, rfl, Nat.le_refl _, fun _ _ _ => rfl⟩⟩
  · have L := AnyQ.slices_SortFunc se_lays 5 (fun _ => by kernel_rfl) (fun _ => by kernel_rfl) ec ec_len (fun x v hv => by simp [ec] at hv; rcases hv with rfl | rfl | rfl | rfl | rfl <;> rfl) cE cE_swo 53 #[] g 0 cap l.toArray w (enters_of Tryz.func53 (by kernel_rfl) rfl) (fun m os dk _ x y => ce_b _ _ _ _ _ _ _ _ _ _ _) (owns_holdsK ec_len hown) ((Array.getElem?_eq_some_iff.1 hgb).1) (by simpa using by omega)
    refine Calls.mono L ?_
    rintro e w' ⟨rfl, d', n, os, hp, hs, rfl⟩
    obtain ⟨h1, h2⟩ := sorted_list hp hs
    have h3 : d'.toList = srE l := srE_eq hd h1 (h2.imp fun {a b} h => by unfold ltOf at h; rw [decide_eq_false_iff_not, cE_lt] at h; exact h)
    obtain ⟨a, b, c⟩ := owns_put (m := n) (os := os) (ys := ev (srE l)) hown (by rw [ev_len, ev_len, ← h3, h1.length_eq])
    have h4 : sortWorldK ec 5 w g 0 n d' os = Go.Sort.grow (Go.Sort.putRow id (Sort.ahead w n) g 0 (ev (srE l)).toArray) os := by
      unfold sortWorldK Go.Sort.putRowK
      rw [show d' = (srE l).toArray by rw [← h3], flatK_of ec_len]; rfl
    rw [h4]
    exact ⟨rfl, a, b, c⟩

theorem pv_flat : ∀ l : List Pr, pv l = l.flatMap prc
  | [] => rfl
  | p :: l => by simp [pv, prc, pv_flat l]
theorem prc_len (p : Pr) : (prc p).length = 2 := rfl
/-- The pairs in order. -/
def srP (l : List Pr) : List Pr := l.mergeSort fun x y => !(ltOf cP) y x
theorem srP_len (l : List Pr) : (srP l).length = l.length := List.length_mergeSort l
theorem srP_perm (l : List Pr) : (srP l).Perm l := List.mergeSort_perm l _
theorem cP_le {x y : Pr} : (!(ltOf cP) y x) = true ↔ ¬ ltP y x := by
  unfold ltOf
  rw [Bool.not_eq_true', decide_eq_false_iff_not, cP_lt]
theorem srP_sorted (l : List Pr) : (srP l).Pairwise fun a b => ¬ ltP b a := by
  have := List.pairwise_mergeSort (le := fun x y : Pr => !(ltOf cP) y x) (fun a b c h1 h2 => by rw [cP_le] at *; unfold ltP at *; omega) (fun a b => by rw [Bool.or_eq_true, cP_le, cP_le]; unfold ltP; omega) l
  exact this.imp fun {a b} h => cP_le.1 h
theorem cP_tot (x y : Pr) (h1 : (ltOf cP) x y = false) (h2 : (ltOf cP) y x = false) : x = y := by
  unfold ltOf at h1 h2
  rw [decide_eq_false_iff_not, cP_lt] at h1 h2
  rcases ltP_or x y with h | h | h
  · exact (h1 h).elim
  · exact h
  · exact (h2 h).elim

/-- slices.SortFunc upon an own row of pairs. -/
theorem sortP_b (B : Nat) (v : Value) (l : List Pr) (w : World) (hn : l.length ≤ 1000000) (hown : w.ownsRow B 49 2 v l.length (pv l)) : Calls Tryz.prog 39 #[v, .func (.func 40) #[] #[]] w fun e w' => e = .returned (.tuple #[]) ∧ w'.ownsRow B 49 2 v l.length (pv (srP l)) ∧ Below B w w' ∧ w.grownBy w' v.ownBlock := by
  obtain ⟨hl, ⟨rfl, hz⟩ | ⟨g, cap, cur, rfl, hbase, hgb, r1, r2, r3, r4⟩⟩ := id hown
  · have hxs : l = [] := List.eq_nil_of_length_eq_zero hz
    subst hxs
    refine (AnyF.slices_SortFunc_none sp_lays none 0 _ w).mono ?_
    rintro e w' ⟨rfl, rfl⟩
    exact ⟨rfl, by simpa [srP] using hown, Below.refl _ _, ⟨rfl, rfl, rfl, Nat.le_refl _, fun _ _ _ => rfl⟩⟩
  · rw [pv_flat] at hown
    have L := AnyQ.slices_SortFunc_total sp_lays 2 (fun _ => by kernel_rfl) (fun _ => by kernel_rfl) prc prc_len (fun x v hv => by simp [prc] at hv; rcases hv with rfl | rfl <;> rfl) cP cP_swo 40 #[] g 0 cap l.toArray w (enters_of Tryz.func40 (by kernel_rfl) rfl) (fun m os dk _ x y => cp_b _ _ _ _ _) (owns_holdsK prc_len hown) ((Array.getElem?_eq_some_iff.1 hgb).1) (by simpa using by omega) cP_tot
    refine Calls.mono L ?_
    rintro e w' ⟨rfl, n, os, rfl⟩
    obtain ⟨a, b, c⟩ := owns_put (m := n) (os := os) (ys := pv (srP l)) hown (by rw [pv_flat, flat_len prc_len, flat_len prc_len, srP_len])
    have h4 : sortWorldK prc 2 w g 0 n (srP l).toArray os = Go.Sort.grow (Go.Sort.putRow id (Sort.ahead w n) g 0 (pv (srP l)).toArray) os := by
      unfold sortWorldK Go.Sort.putRowK
      rw [flatK_of prc_len, pv_flat]
    rw [← h4] at a b c
    exact ⟨rfl, a, b, c⟩

end Go.Proofs.YtaahgblkmajceaaGreat
