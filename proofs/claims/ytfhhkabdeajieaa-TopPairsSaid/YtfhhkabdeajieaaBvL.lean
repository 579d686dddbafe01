/- Chapter 20: Go's library at this program: slices.Sort at ints, slices.Sorted(maps.Keys(m)) at the map of leaves. -/
import Derived.Shelf.SlIterI.Nil
import Derived.Shelf.SortM.Plain
import Derived.Shelf.SortM.SortNone
import Derived.Shelf.SlGeneric
import Derived.Shelf.AbstractIn
import Derived.Test.YtfhhkabdeajieaaBvR
set_option linter.unusedVariables false
set_option linter.unusedSimpArgs false
namespace Go.Proofs.Ytfhhkabdeajieaa
open Go.RowKit Fx Go.Maps Go.Sort Go.Shelf

def bsortRen : Go.Shelf.Ren := ⟨fun
  | 5 => 53
  | 7 => 78
  | 8 => 49
  | 10 => 99
  | 11 => 100
  | 12 => 101
  | 13 => 102
  | 14 => 103
  | 15 => 104
  | 16 => 105
  | 17 => 106
  | 18 => 107
  | 19 => 74
  | 20 => 75
  | 30 => 116
  | 31 => 94
  | 32 => 95
  | 33 => 117
  | 34 => 118
  | 35 => 76
  | 40 => 123
  | 42 => 129
  | 43 => 130
  | 44 => 131
  | 45 => 132
  | 46 => 133
  | 47 => 134
  | 48 => 135
  | 49 => 136
  | 50 => 137
  | 51 => 138
  | 52 => 139
  | 53 => 140
  | 54 => 141
  | 55 => 142
  | 56 => 143
  | 57 => 145
  | n => n, fun
  | 0 => 0
  | 1 => 1
  | 2 => 2
  | 3 => 3
  | 4 => 4
  | 5 => 5
  | 6 => 6
  | 8 => 8
  | 9 => 9
  | 10 => 10
  | 11 => 11
  | 12 => 12
  | 14 => 14
  | 15 => 15
  | 16 => 16
  | 17 => 17
  | 19 => 19
  | 21 => 21
  | 22 => 63
  | 23 => 63
  | 24 => 96
  | 25 => 3
  | 30 => 118
  | 31 => 92
  | 32 => 93
  | 34 => 135
  | 35 => 106
  | 36 => 107
  | 37 => 136
  | 38 => 137
  | 39 => 90
  | 40 => 138
  | 41 => 111
  | 42 => 139
  | 43 => 113
  | 44 => 114
  | 45 => 115
  | 46 => 116
  | 53 => 128
  | 54 => 129
  | 55 => 130
  | 56 => 146
  | 57 => 132
  | 58 => 147
  | 59 => 81
  | 63 => 144
  | 64 => 37
  | 65 => 152
  | 67 => 154
  | 69 => 156
  | 70 => 157
  | 72 => 159
  | 73 => 55
  | 74 => 160
  | 75 => 161
  | 76 => 162
  | 77 => 163
  | 78 => 164
  | 79 => 165
  | 81 => 167
  | 82 => 168
  | n => n, fun n => n⟩

set_option maxRecDepth 100000 in
set_option maxHeartbeats 4000000 in
theorem bsort_lays : SlLaysM.n5 Try.prog bsortRen := {
  mixed := by kernel_rfl
  f5 := ⟨"slices.Sort[[]int,int]", by decide, by kernel_rfl⟩
  f7 := ⟨"slices.pdqsortOrdered[int]", by decide, by kernel_rfl⟩
  f8 := by kernel_rfl
  f10 := ⟨"slices.insertionSortOrdered[int]", by decide, by kernel_rfl⟩
  f11 := ⟨"slices.heapSortOrdered[int]", by decide, by kernel_rfl⟩
  f12 := ⟨"slices.breakPatternsOrdered[int]", by decide, by kernel_rfl⟩
  f13 := ⟨"slices.choosePivotOrdered[int]", by decide, by kernel_rfl⟩
  f14 := ⟨"slices.reverseRangeOrdered[int]", by decide, by kernel_rfl⟩
  f15 := ⟨"slices.partialInsertionSortOrdered[int]", by decide, by kernel_rfl⟩
  f16 := ⟨"cmp.Less[int]", by decide, by kernel_rfl⟩
  f17 := ⟨"slices.partitionEqualOrdered[int]", by decide, by kernel_rfl⟩
  f18 := ⟨"slices.partitionOrdered[int]", by decide, by kernel_rfl⟩
  f19 := by kernel_rfl
  f20 := by kernel_rfl
  f30 := ⟨"slices.siftDownOrdered[int]", by decide, by kernel_rfl⟩
  f31 := by kernel_rfl
  f32 := by kernel_rfl
  f33 := ⟨"slices.medianAdjacentOrdered[int]", by decide, by kernel_rfl⟩
  f34 := ⟨"slices.medianOrdered[int]", by decide, by kernel_rfl⟩
  f35 := ⟨"cmp.isNaN[int]", by decide, by kernel_rfl⟩
  f40 := ⟨"slices.order2Ordered[int]", by decide, by kernel_rfl⟩
  t0 := by kernel_rfl
  a0 := fun _ => by kernel_rfl
  z0 := fun _ => by kernel_rfl
  v0 := fun _ => by kernel_rfl
  t3 := by kernel_rfl
  a3 := fun _ => by kernel_rfl
  z3 := fun _ => by kernel_rfl
  v3 := fun _ => by kernel_rfl
  t4 := by kernel_rfl
  a4 := fun _ => by kernel_rfl
  z4 := fun _ => by kernel_rfl
  v4 := fun _ => by kernel_rfl
  t5 := by kernel_rfl
  a5 := fun _ => by kernel_rfl
  z5 := fun _ => by kernel_rfl
  v5 := fun _ => by kernel_rfl
  t9 := by kernel_rfl
  a9 := fun _ => by kernel_rfl
  z9 := fun _ => by kernel_rfl
  v9 := fun _ => by kernel_rfl
  t22 := by kernel_rfl
  a22 := fun _ => by kernel_rfl
  z22 := fun _ => by kernel_rfl
  v22 := fun _ => by kernel_rfl
  t23 := by kernel_rfl
  a23 := fun _ => by kernel_rfl
  z23 := fun _ => by kernel_rfl
  v23 := fun _ => by kernel_rfl
  t25 := by kernel_rfl
  a25 := fun _ => by kernel_rfl
  z25 := fun _ => by kernel_rfl
  v25 := fun _ => by kernel_rfl
  t32 := by kernel_rfl
  a32 := fun _ => by kernel_rfl
  z32 := fun _ => by kernel_rfl
  v32 := fun _ => by kernel_rfl
  t35 := by kernel_rfl
  a35 := fun _ => by kernel_rfl
  z35 := fun _ => by kernel_rfl
  v35 := fun _ => by kernel_rfl
  t36 := by kernel_rfl
  a36 := fun _ => by kernel_rfl
  z36 := fun _ => by kernel_rfl
  v36 := fun _ => by kernel_rfl
  t41 := by kernel_rfl
  a41 := fun _ => by kernel_rfl
  z41 := fun _ => by kernel_rfl
  v41 := fun _ => by kernel_rfl
  t44 := by kernel_rfl
  a44 := fun _ => by kernel_rfl
  z44 := fun _ => by kernel_rfl
  v44 := fun _ => by kernel_rfl
  t46 := by kernel_rfl
  a46 := fun _ => by kernel_rfl
  z46 := fun _ => by kernel_rfl
  v46 := fun _ => by kernel_rfl
  t53 := by kernel_rfl
  a53 := fun _ => by kernel_rfl
  z53 := fun _ => by kernel_rfl
  v53 := fun _ => by kernel_rfl
  t57 := by kernel_rfl
  a57 := fun _ => by kernel_rfl
  z57 := fun _ => by kernel_rfl
  v57 := fun _ => by kernel_rfl
  t63 := by kernel_rfl
  a63 := fun _ => by kernel_rfl
  z63 := fun _ => by kernel_rfl
  v63 := fun _ => by kernel_rfl
  t64 := by kernel_rfl
  a64 := fun _ => by kernel_rfl
  z64 := fun _ => by kernel_rfl
  v64 := fun _ => by kernel_rfl }

def bkeysRen : Go.Shelf.Ren := ⟨fun
  | 7 => 45
  | 10 => 63
  | 13 => 49
  | 23 => 74
  | 24 => 75
  | 26 => 94
  | 27 => 95
  | 32 => 129
  | 33 => 130
  | 34 => 131
  | 35 => 132
  | 36 => 133
  | 37 => 134
  | 38 => 135
  | 39 => 136
  | 40 => 137
  | 41 => 138
  | 42 => 139
  | 43 => 140
  | 44 => 141
  | 45 => 142
  | 46 => 143
  | 47 => 145
  | n => n, fun
  | 0 => 0
  | 1 => 1
  | 2 => 2
  | 3 => 75
  | 4 => 4
  | 5 => 5
  | 6 => 6
  | 8 => 8
  | 9 => 9
  | 10 => 10
  | 11 => 11
  | 12 => 12
  | 14 => 14
  | 15 => 15
  | 16 => 16
  | 17 => 17
  | 19 => 19
  | 21 => 21
  | 23 => 76
  | 24 => 63
  | 25 => 82
  | 26 => 3
  | 27 => 83
  | 28 => 84
  | 29 => 85
  | 32 => 96
  | 33 => 81
  | 34 => 126
  | 35 => 118
  | 36 => 92
  | 37 => 93
  | 38 => 135
  | 39 => 106
  | 40 => 107
  | 41 => 136
  | 42 => 137
  | 43 => 90
  | 44 => 138
  | 45 => 111
  | 46 => 139
  | 47 => 113
  | 48 => 114
  | 49 => 115
  | 50 => 116
  | 51 => 128
  | 52 => 129
  | 53 => 130
  | 54 => 146
  | 55 => 132
  | 56 => 147
  | 57 => 144
  | 58 => 37
  | 59 => 152
  | 60 => 154
  | 62 => 156
  | 63 => 157
  | 65 => 159
  | 66 => 55
  | 67 => 160
  | 68 => 161
  | 69 => 162
  | 70 => 163
  | 71 => 164
  | 72 => 165
  | 74 => 167
  | 75 => 168
  | n => n, fun n => n⟩

set_option maxRecDepth 100000 in
set_option maxHeartbeats 4000000 in
theorem bkeys_lays : SlLaysZI.n7 Try.prog bkeysRen := {
  mixed := by kernel_rfl
  f7 := ⟨"maps.Keys[map[int]*carom/bvh.node,int,*carom/bvh.node]", by decide, by kernel_rfl⟩
  f10 := ⟨"maps.Keys[map[int]*carom/bvh.node,int,*carom/bvh.node]$1", by decide, by kernel_rfl⟩
  t0 := by kernel_rfl
  a0 := fun _ => by kernel_rfl
  z0 := fun _ => by kernel_rfl
  v0 := fun _ => by kernel_rfl
  t4 := by kernel_rfl
  a4 := fun _ => by kernel_rfl
  z4 := fun _ => by kernel_rfl
  v4 := fun _ => by kernel_rfl
  t23 := by kernel_rfl
  a23 := fun _ => by kernel_rfl
  z23 := fun _ => by kernel_rfl
  v23 := fun _ => by kernel_rfl
  t26 := by kernel_rfl
  a26 := fun _ => by kernel_rfl
  z26 := fun _ => by kernel_rfl
  v26 := fun _ => by kernel_rfl
  t27 := by kernel_rfl
  a27 := fun _ => by kernel_rfl
  z27 := fun _ => by kernel_rfl
  v27 := fun _ => by kernel_rfl
  t28 := by kernel_rfl
  a28 := fun _ => by kernel_rfl
  z28 := fun _ => by kernel_rfl
  v28 := fun _ => by kernel_rfl
  t33 := by kernel_rfl
  a33 := fun _ => by kernel_rfl
  z33 := fun _ => by kernel_rfl
  v33 := fun _ => by kernel_rfl }

def bsrtdRen : Go.Shelf.Ren := ⟨fun
  | 6 => 44
  | 8 => 62
  | 9 => 53
  | 11 => 91
  | 12 => 78
  | 13 => 49
  | 14 => 99
  | 15 => 100
  | 16 => 101
  | 17 => 102
  | 18 => 103
  | 19 => 104
  | 20 => 105
  | 21 => 106
  | 22 => 107
  | 23 => 74
  | 24 => 75
  | 25 => 116
  | 26 => 94
  | 27 => 95
  | 28 => 117
  | 29 => 118
  | 30 => 76
  | 31 => 123
  | 32 => 129
  | 33 => 130
  | 34 => 131
  | 35 => 132
  | 36 => 133
  | 37 => 134
  | 38 => 135
  | 39 => 136
  | 40 => 137
  | 41 => 138
  | 42 => 139
  | 43 => 140
  | 44 => 141
  | 45 => 142
  | 46 => 143
  | 47 => 145
  | n => n, fun
  | 0 => 0
  | 1 => 1
  | 2 => 2
  | 3 => 3
  | 4 => 4
  | 5 => 5
  | 6 => 6
  | 8 => 8
  | 9 => 9
  | 10 => 10
  | 11 => 11
  | 12 => 12
  | 14 => 14
  | 15 => 15
  | 16 => 16
  | 17 => 17
  | 19 => 19
  | 21 => 21
  | 24 => 63
  | 25 => 82
  | 26 => 3
  | 27 => 83
  | 28 => 84
  | 32 => 96
  | 33 => 81
  | 34 => 126
  | 35 => 118
  | 36 => 92
  | 37 => 93
  | 38 => 135
  | 39 => 106
  | 40 => 107
  | 41 => 136
  | 42 => 137
  | 43 => 90
  | 44 => 138
  | 45 => 111
  | 46 => 139
  | 47 => 113
  | 48 => 114
  | 49 => 115
  | 50 => 116
  | 51 => 128
  | 52 => 129
  | 53 => 130
  | 54 => 146
  | 55 => 132
  | 56 => 147
  | 57 => 144
  | 58 => 37
  | 59 => 152
  | 60 => 154
  | 62 => 156
  | 63 => 157
  | 65 => 159
  | 66 => 55
  | 67 => 160
  | 68 => 161
  | 69 => 162
  | 70 => 163
  | 71 => 164
  | 72 => 165
  | 74 => 167
  | 75 => 168
  | n => n, fun n => n⟩

set_option maxRecDepth 100000 in
set_option maxHeartbeats 4000000 in
theorem bsrtd_lays : SlLaysZI.n6 Try.prog bsrtdRen := {
  mixed := by kernel_rfl
  f6 := ⟨"slices.Sorted[int]", by decide, by kernel_rfl⟩
  f8 := ⟨"slices.Collect[int]", by decide, by kernel_rfl⟩
  f11 := ⟨"slices.AppendSeq[[]int,int]", by decide, by kernel_rfl⟩
  t0 := by kernel_rfl
  a0 := fun _ => by kernel_rfl
  z0 := fun _ => by kernel_rfl
  v0 := fun _ => by kernel_rfl
  t24 := by kernel_rfl
  a24 := fun _ => by kernel_rfl
  z24 := fun _ => by kernel_rfl
  v24 := fun _ => by kernel_rfl
  t26 := by kernel_rfl
  a26 := fun _ => by kernel_rfl
  z26 := fun _ => by kernel_rfl
  v26 := fun _ => by kernel_rfl
  t28 := by kernel_rfl
  a28 := fun _ => by kernel_rfl
  z28 := fun _ => by kernel_rfl
  v28 := fun _ => by kernel_rfl
  i26 := by kernel_rfl }

/-- slices.Sort upon a slice of ints of the call's own. -/
theorem xsort_own (B : Nat) (v : Value) (xs : List Int) (w : World) (hn : xs.length ≤ 1000000) (hown : w.ownsRow B 3 1 v xs.length (iv xs)) : Calls Try.prog 53 #[v] w fun e w' => e = .returned (.tuple #[]) ∧ w'.ownsRow B 3 1 v xs.length (iv (xs.mergeSort fun x y => decide (x ≤ y))) ∧ Below B w w' := by
  obtain ⟨hl, ⟨rfl, hz⟩ | ⟨g, cap, cur, rfl, hbase, hgb, r1, r2, r3, r4⟩⟩ := id hown
  · have hxs : xs = [] := List.eq_nil_of_length_eq_zero hz
    subst hxs
    refine (AnyM.slices_Sort_int_none bsort_lays none 0 w).mono ?_
    rintro e w' ⟨rfl, rfl⟩
    exact ⟨rfl, by simpa using hown, Below.refl _ _⟩
  · have hH : Holds encZ w g 0 xs.toArray := holds_of_block_i hgb (by simpa [iv, encZ] using r4)
    have hgl : g < w.heap.size := (Array.getElem?_eq_some_iff.1 hgb).1
    refine (AnyM.slices_Sort_int bsort_lays g 0 cap xs w hH hgl (by omega)).mono ?_
    rintro e w' ⟨rfl, n, os, rfl⟩
    refine ⟨rfl, ownsRow_sorted_i (by simp) hbase hgb r1 r2 r3, ?_⟩
    have hg := grownBy_sorted_i (w := w) (g := g) (n := n) (os := os) (xs.mergeSort fun x y => decide (x ≤ y)).toArray
    exact ⟨hg.os, hg.tape, hg.output, hg.size, fun k hk => by
      by_cases hkw : k < w.heap.size
      · exact hg.block k hkw (by simp; omega)
      · omega⟩

/-- maps.Keys(m). -/
theorem xkeys_b (mb : Option Nat) (w : World) : Calls Try.prog 45 #[.map mb] w fun e w' => e = .returned (.func (.func 63) #[] #[.pointer (some ⟨w.heap.size, 0, none⟩)]) ∧ w' = w.alloc (.cells #[.map mb] 76) :=
  (callsIn_wide (n := 6)).1 (AnyZI.keys_in bkeys_lays Fence.wide 6 trivial rfl mb w)

theorem bsorts (m : Nat) : AnyZI.SortsIn Try.prog bsrtdRen Fence.wide m :=
  ⟨fun blk off cap ss W hH hblk hsz => callsIn_wide.2 (AnyM.slices_Sort_int bsort_lays blk off cap ss W hH hblk hsz),
   fun p cap W => callsIn_wide.2 (AnyM.slices_Sort_int_none bsort_lays p cap W)⟩

theorem srt_merge {ss : List Int} {L : Bxs} (h : Srt L) (hp : ss.Perm (L.map (·.1))) : (ss.mergeSort fun x y => decide (x ≤ y)) = L.map (·.1) := by
  have h1 : (ss.mergeSort fun x y => decide (x ≤ y)).Perm (L.map (·.1)) := (List.mergeSort_perm _ _).trans hp
  have h2 : (ss.mergeSort fun x y => decide (x ≤ y)).Pairwise (fun x y => decide (x ≤ y) = true) := List.pairwise_mergeSort (fun a b c h1 h2 => by simp only [decide_eq_true_eq] at *; omega) (fun a b => by simp only [Bool.or_eq_true, decide_eq_true_eq]; omega) _
  have h3 : (L.map (·.1)).Pairwise (fun x y => decide (x ≤ y) = true) := by
    rw [List.pairwise_map]; exact h.imp fun h => by simp only [decide_eq_true_eq]; omega
  exact List.Perm.eq_of_pairwise (fun a b _ _ h1 h2 => by simp only [decide_eq_true_eq] at *; omega) h2 h3 h1

/-- slices.Sorted(maps.Keys(m)). -/
theorem xsorted_b (Bm : Nat) (mb : Option Nat) (L : Bxs) (F : Int → Option Nat) (w : World) (hBm : Bm < w.heap.size) (hc : w.cell? ⟨Bm, 0, none⟩ = some (.map mb)) (hm : MapAt w mb F L.length) (hL : Srt L) (hlen : L.length ≤ 100000) (hF : ∀ i, (F i).isSome = true ↔ i ∈ L.map (·.1)) :
    Calls Try.prog 44 #[.func (.func 63) #[] #[.pointer (some ⟨Bm, 0, none⟩)]] w fun e w' => (∃ v, e = .returned v ∧ w'.ownsRow w.heap.size 3 1 v (L.map (·.1)).length (iv (L.map (·.1)))) ∧ Below w.heap.size w w' := by
  have hk : ∃ N, N ≤ 100000 ∧ SeqGives Fence.wide 2 Try.prog 63 #[.pointer (some ⟨Bm, 0, none⟩)] encZ (fun ss => ss.Perm (L.map (·.1))) N w := by
    cases mb with
    | none =>
      have hL0 : L = [] := List.eq_nil_of_length_eq_zero hm.2
      refine ⟨0, by omega, ?_⟩
      have := AnyZI.keys_gives_nil (ρ := bkeysRen) { bkeys_lays with } Fence.wide 2 trivial rfl Bm w hBm hc
      subst hL0
      intro l J W h1 h2 h3 h4
      exact (this l J W h1 h2 h3 h4).mono fun e W' ⟨h5, xs, h6, h7⟩ => ⟨h5, xs, by rw [h6]; exact List.Perm.refl _, h7⟩
    | some b =>
      obtain ⟨D, h1, h2, h3, h4⟩ := hm
      have hp : (L.map (·.1)).Perm (intKeys D) := CollectedI.perm (left := fun _ => false) ⟨srt_nodup hL, fun x => by rw [h4, hF]; simp⟩ h1 kmap (by kernel_rfl) fun _ => rfl
      refine ⟨size D, by omega, ?_⟩
      have := AnyZI.keys_gives (ρ := bkeysRen) { bkeys_lays with } Fence.wide 2 trivial rfl (by omega) Bm b L.length D w hBm hc h1
      intro l J W h1 h2 h3 h4
      exact (this l J W h1 h2 h3 h4).mono fun e W' ⟨h5, xs, h6, h7⟩ => ⟨h5, xs, h6.trans hp.symm, h7⟩
  obtain ⟨N, hN, hseq⟩ := hk
  have cS := AnyZI.sorted_in bsrtd_lays Fence.wide 5 trivial trivial trivial trivial rfl (by omega) (bsorts _) (enters_of Try.func53 (by kernel_rfl) rfl) 63 #[.pointer (some ⟨Bm, 0, none⟩)] trivial (enters_of Try.func63 (by kernel_rfl) rfl) _ N (by unfold maxLen; omega) (by omega) w hseq
  refine ((callsIn_wide (n := 5)).1 cS).mono ?_
  rintro e w' ⟨v, ss, rfl, hp, hown, _, hb⟩
  refine ⟨⟨v, rfl, ?_⟩, hb⟩
  have hs := srt_merge hL hp
  have hl := hp.length_eq
  rw [← hl]
  rw [hs] at hown
  exact hown

end Go.Proofs.Ytfhhkabdeajieaa
