/- Chapter 20: Go's library at this program: slices.Sort at ints, slices.Sorted(maps.Keys(m)) at the map of leaves.
Chapter 20: contracts of collect, search, Query, RayQuery; the methods of a nil tree.
Chapter 20: contracts of search, Query, RayQuery.
Chapter 20: contract of Pairs.
Chapter 20: rows as values that are not written out; EqualInts, EqualPairs, MaxHeight.
Chapter 20: the statements' unitBox and example.
Boxes and operations in slices: what their cells say. -/
import Derived.Shelf.SlIterI.Nil
import Derived.Shelf.SortM.Plain
import Derived.Shelf.SortM.SortNone
import Derived.Shelf.SlGeneric
import Derived.Shelf.AbstractIn
import Derived.Test.YtaahgblkmajceaaGreatBg1
import Derived.Deep.LoopGhost
import Derived.Deep.DeepCutAuto
import Derived.Test.YtaahgblkmajceaaGreatKi3
import Derived.Maps.AppendAt
import Derived.OwnWalk
import Derived.Test.YtaahgblkmajceaaGreatDat
import Derived.Test.YtaahgblkmajceaaGreatChecked

set_option linter.unusedVariables false
set_option linter.unusedSimpArgs false
namespace Go.Proofs.YtaahgblkmajceaaGreat
open Go.RowKit Fx Go.Maps Go.Sort Go.Shelf

def bsortRen : Go.Shelf.Ren := ⟨fun
  | 5 => 60
  | 7 => 83
  | 8 => 56
  | 10 => 106
  | 11 => 107
  | 12 => 108
  | 13 => 109
  | 14 => 110
  | 15 => 111
  | 16 => 112
  | 17 => 113
  | 18 => 114
  | 19 => 80
  | 20 => 81
  | 30 => 136
  | 31 => 102
  | 32 => 103
  | 33 => 137
  | 34 => 138
  | 35 => 57
  | 40 => 161
  | 42 => 180
  | 43 => 181
  | 44 => 182
  | 45 => 183
  | 46 => 184
  | 47 => 185
  | 48 => 186
  | 49 => 187
  | 50 => 188
  | 51 => 189
  | 52 => 190
  | 53 => 191
  | 54 => 192
  | 55 => 193
  | 56 => 194
  | 57 => 195
  | n => n, fun
  | 0 => 0
  | 1 => 1
  | 2 => 2
  | 3 => 3
  | 4 => 4
  | 5 => 5
  | 6 => 6
  | 8 => 8
  | 9 => 9
  | 10 => 10
  | 11 => 11
  | 12 => 12
  | 14 => 14
  | 15 => 15
  | 16 => 16
  | 17 => 17
  | 19 => 19
  | 21 => 21
  | 22 => 94
  | 23 => 94
  | 24 => 110
  | 25 => 3
  | 30 => 131
  | 31 => 107
  | 32 => 108
  | 34 => 150
  | 35 => 119
  | 36 => 120
  | 37 => 151
  | 38 => 152
  | 39 => 116
  | 40 => 153
  | 41 => 124
  | 42 => 154
  | 43 => 126
  | 44 => 127
  | 45 => 128
  | 46 => 129
  | 53 => 144
  | 54 => 145
  | 55 => 146
  | 56 => 169
  | 57 => 148
  | 58 => 170
  | 59 => 109
  | 63 => 166
  | 64 => 167
  | 65 => 177
  | 67 => 184
  | 69 => 186
  | 70 => 187
  | 72 => 189
  | 73 => 190
  | 74 => 191
  | 75 => 192
  | 76 => 193
  | 77 => 194
  | 78 => 195
  | 79 => 196
  | 81 => 198
  | 82 => 199
  | n => n, fun n => n⟩

set_option maxRecDepth 100000 in
set_option maxHeartbeats 4000000 in
theorem bsort_lays : SlLaysM.n5 Tryz.prog bsortRen := {
  mixed := by kernel_rfl
  f5 := ⟨"slices.Sort[[]int,int]", by decide, by kernel_rfl⟩
  f7 := ⟨"slices.pdqsortOrdered[int]", by decide, by kernel_rfl⟩
  f8 := by kernel_rfl
  f10 := ⟨"slices.insertionSortOrdered[int]", by decide, by kernel_rfl⟩
  f11 := ⟨"slices.heapSortOrdered[int]", by decide, by kernel_rfl⟩
  f12 := ⟨"slices.breakPatternsOrdered[int]", by decide, by kernel_rfl⟩
  f13 := ⟨"slices.choosePivotOrdered[int]", by decide, by kernel_rfl⟩
  f14 := ⟨"slices.reverseRangeOrdered[int]", by decide, by kernel_rfl⟩
  f15 := ⟨"slices.partialInsertionSortOrdered[int]", by decide, by kernel_rfl⟩
  f16 := ⟨"cmp.Less[int]", by decide, by kernel_rfl⟩
  f17 := ⟨"slices.partitionEqualOrdered[int]", by decide, by kernel_rfl⟩
  f18 := ⟨"slices.partitionOrdered[int]", by decide, by kernel_rfl⟩
  f19 := by kernel_rfl
  f20 := by kernel_rfl
  f30 := ⟨"slices.siftDownOrdered[int]", by decide, by kernel_rfl⟩
  f31 := by kernel_rfl
  f32 := by kernel_rfl
  f33 := ⟨"slices.medianAdjacentOrdered[int]", by decide, by kernel_rfl⟩
  f34 := ⟨"slices.medianOrdered[int]", by decide, by kernel_rfl⟩
  f35 := ⟨"cmp.isNaN[int]", by decide, by kernel_rfl⟩
  f40 := ⟨"slices.order2Ordered[int]", by decide, by kernel_rfl⟩
  t0 := by kernel_rfl
  a0 := fun _ => by kernel_rfl
  z0 := fun _ => by kernel_rfl
  v0 := fun _ => by kernel_rfl
  t3 := by kernel_rfl
  a3 := fun _ => by kernel_rfl
  z3 := fun _ => by kernel_rfl
  v3 := fun _ => by kernel_rfl
  t4 := by kernel_rfl
  a4 := fun _ => by kernel_rfl
  z4 := fun _ => by kernel_rfl
  v4 := fun _ => by kernel_rfl
  t5 := by kernel_rfl
  a5 := fun _ => by kernel_rfl
  z5 := fun _ => by kernel_rfl
  v5 := fun _ => by kernel_rfl
  t9 := by kernel_rfl
  a9 := fun _ => by kernel_rfl
  z9 := fun _ => by kernel_rfl
  v9 := fun _ => by kernel_rfl
  t22 := by kernel_rfl
  a22 := fun _ => by kernel_rfl
  z22 := fun _ => by kernel_rfl
  v22 := fun _ => by kernel_rfl
  t23 := by kernel_rfl
  a23 := fun _ => by kernel_rfl
  z23 := fun _ => by kernel_rfl
  v23 := fun _ => by kernel_rfl
  t25 := by kernel_rfl
  a25 := fun _ => by kernel_rfl
  z25 := fun _ => by kernel_rfl
  v25 := fun _ => by kernel_rfl
  t32 := by kernel_rfl
  a32 := fun _ => by kernel_rfl
  z32 := fun _ => by kernel_rfl
  v32 := fun _ => by kernel_rfl
  t35 := by kernel_rfl
  a35 := fun _ => by kernel_rfl
  z35 := fun _ => by kernel_rfl
  v35 := fun _ => by kernel_rfl
  t36 := by kernel_rfl
  a36 := fun _ => by kernel_rfl
  z36 := fun _ => by kernel_rfl
  v36 := fun _ => by kernel_rfl
  t41 := by kernel_rfl
  a41 := fun _ => by kernel_rfl
  z41 := fun _ => by kernel_rfl
  v41 := fun _ => by kernel_rfl
  t44 := by kernel_rfl
  a44 := fun _ => by kernel_rfl
  z44 := fun _ => by kernel_rfl
  v44 := fun _ => by kernel_rfl
  t46 := by kernel_rfl
  a46 := fun _ => by kernel_rfl
  z46 := fun _ => by kernel_rfl
  v46 := fun _ => by kernel_rfl
  t53 := by kernel_rfl
  a53 := fun _ => by kernel_rfl
  z53 := fun _ => by kernel_rfl
  v53 := fun _ => by kernel_rfl
  t57 := by kernel_rfl
  a57 := fun _ => by kernel_rfl
  z57 := fun _ => by kernel_rfl
  v57 := fun _ => by kernel_rfl
  t63 := by kernel_rfl
  a63 := fun _ => by kernel_rfl
  z63 := fun _ => by kernel_rfl
  v63 := fun _ => by kernel_rfl
  t64 := by kernel_rfl
  a64 := fun _ => by kernel_rfl
  z64 := fun _ => by kernel_rfl
  v64 := fun _ => by kernel_rfl }

def bsrtdRen : Go.Shelf.Ren := ⟨fun
  | 6 => 44
  | 8 => 59
  | 9 => 60
  | 11 => 82
  | 12 => 83
  | 13 => 56
  | 14 => 106
  | 15 => 107
  | 16 => 108
  | 17 => 109
  | 18 => 110
  | 19 => 111
  | 20 => 112
  | 21 => 113
  | 22 => 114
  | 23 => 80
  | 24 => 81
  | 25 => 136
  | 26 => 102
  | 27 => 103
  | 28 => 137
  | 29 => 138
  | 30 => 57
  | 31 => 161
  | 32 => 180
  | 33 => 181
  | 34 => 182
  | 35 => 183
  | 36 => 184
  | 37 => 185
  | 38 => 186
  | 39 => 187
  | 40 => 188
  | 41 => 189
  | 42 => 190
  | 43 => 191
  | 44 => 192
  | 45 => 193
  | 46 => 194
  | 47 => 195
  | n => n, fun
  | 0 => 0
  | 1 => 1
  | 2 => 2
  | 3 => 3
  | 4 => 4
  | 5 => 5
  | 6 => 6
  | 8 => 8
  | 9 => 9
  | 10 => 10
  | 11 => 11
  | 12 => 12
  | 14 => 14
  | 15 => 15
  | 16 => 16
  | 17 => 17
  | 19 => 19
  | 21 => 21
  | 24 => 94
  | 25 => 95
  | 26 => 3
  | 27 => 96
  | 28 => 97
  | 32 => 110
  | 33 => 109
  | 34 => 130
  | 35 => 131
  | 36 => 107
  | 37 => 108
  | 38 => 150
  | 39 => 119
  | 40 => 120
  | 41 => 151
  | 42 => 152
  | 43 => 116
  | 44 => 153
  | 45 => 124
  | 46 => 154
  | 47 => 126
  | 48 => 127
  | 49 => 128
  | 50 => 129
  | 51 => 144
  | 52 => 145
  | 53 => 146
  | 54 => 169
  | 55 => 148
  | 56 => 170
  | 57 => 166
  | 58 => 167
  | 59 => 177
  | 60 => 184
  | 62 => 186
  | 63 => 187
  | 65 => 189
  | 66 => 190
  | 67 => 191
  | 68 => 192
  | 69 => 193
  | 70 => 194
  | 71 => 195
  | 72 => 196
  | 74 => 198
  | 75 => 199
  | n => n, fun n => n⟩

set_option maxRecDepth 100000 in
set_option maxHeartbeats 4000000 in
theorem bsrtd_lays : SlLaysZI.n6 Tryz.prog bsrtdRen := {
  mixed := by kernel_rfl
  f6 := ⟨"slices.Sorted[int]", by decide, by kernel_rfl⟩
  f8 := ⟨"slices.Collect[int]", by decide, by kernel_rfl⟩
  f11 := ⟨"slices.AppendSeq[[]int,int]", by decide, by kernel_rfl⟩
  t0 := by kernel_rfl
  a0 := fun _ => by kernel_rfl
  z0 := fun _ => by kernel_rfl
  v0 := fun _ => by kernel_rfl
  t24 := by kernel_rfl
  a24 := fun _ => by kernel_rfl
  z24 := fun _ => by kernel_rfl
  v24 := fun _ => by kernel_rfl
  t26 := by kernel_rfl
  a26 := fun _ => by kernel_rfl
  z26 := fun _ => by kernel_rfl
  v26 := fun _ => by kernel_rfl
  t28 := by kernel_rfl
  a28 := fun _ => by kernel_rfl
  z28 := fun _ => by kernel_rfl
  v28 := fun _ => by kernel_rfl
  i26 := by kernel_rfl }

theorem xsort_own (B : Nat) (v : Value) (xs : List Int) (w : World) (hn : xs.length ≤ 1000000) (hown : w.ownsRow B 3 1 v xs.length (iv xs)) : Calls Tryz.prog 60 #[v] w fun e w' => e = .returned (.tuple #[]) ∧ w'.ownsRow B 3 1 v xs.length (iv (xs.mergeSort fun x y => decide (x ≤ y))) ∧ Below B w w' := by
  obtain ⟨hl, ⟨rfl, hz⟩ | ⟨g, cap, cur, rfl, hbase, hgb, r1, r2, r3, r4⟩⟩ := id hown
  · have hxs : xs = [] := List.eq_nil_of_length_eq_zero hz
    subst hxs
    refine (AnyM.slices_Sort_int_none bsort_lays none 0 w).mono ?_
    rintro e w' ⟨rfl, rfl⟩
    exact ⟨rfl, by simpa using hown, Below.refl _ _⟩
  · have hH : Holds encZ w g 0 xs.toArray := holds_of_block_i hgb (by simpa [iv, encZ] using r4)
    have hgl : g < w.heap.size := (Array.getElem?_eq_some_iff.1 hgb).1
    refine (AnyM.slices_Sort_int bsort_lays g 0 cap xs w hH hgl (by omega)).mono ?_
    rintro e w' ⟨rfl, n, os, rfl⟩
    refine ⟨rfl, ownsRow_sorted_i (by simp) hbase hgb r1 r2 r3, ?_⟩
    have hg := grownBy_sorted_i (w := w) (g := g) (n := n) (os := os) (xs.mergeSort fun x y => decide (x ≤ y)).toArray
    exact ⟨hg.os, hg.tape, hg.output, hg.size, fun k hk => by
      by_cases hkw : k < w.heap.size
      · exact hg.block k hkw (by simp; omega)
      · omega⟩

theorem bsorts (m : Nat) : AnyZI.SortsIn Tryz.prog bsrtdRen Fence.wide m :=
  ⟨fun blk off cap ss W hH hblk hsz => callsIn_wide.2 (AnyM.slices_Sort_int bsort_lays blk off cap ss W hH hblk hsz),
   fun p cap W => callsIn_wide.2 (AnyM.slices_Sort_int_none bsort_lays p cap W)⟩

end Go.Proofs.YtaahgblkmajceaaGreat

set_option linter.unusedVariables false
set_option linter.unusedSimpArgs false
namespace Go.Proofs.YtaahgblkmajceaaGreat
open Go.RowKit Fx

end Go.Proofs.YtaahgblkmajceaaGreat

set_option linter.unusedVariables false
set_option linter.unusedSimpArgs false
namespace Go.Proofs.YtaahgblkmajceaaGreat
open Go.RowKit Fx

theorem owns_base {w : World} {B B' : Nat} {e : TypeId} {k n : Nat} {v : Value} {xs : List Value} (h : w.ownsRow B e k v n xs) (hb : B' ≤ B) : w.ownsRow B' e k v n xs := by
  obtain ⟨h1, h2 | ⟨g, cap, cur, hv, hg, r⟩⟩ := h
  · exact ⟨h1, .inl h2⟩
  · exact ⟨h1, .inr ⟨g, cap, cur, hv, Nat.le_trans hb hg, r⟩⟩

def hitL (L : Bxs) (m : Bx → Bool) : List Int := (L.filter fun e => m e.2).map (·.1)
end Go.Proofs.YtaahgblkmajceaaGreat

set_option linter.unusedVariables false
set_option linter.unusedSimpArgs false
namespace Go.Proofs.YtaahgblkmajceaaGreat
open Go.RowKit Fx

theorem blk_grown20 {w w' : World} {row : Option Nat} (hg : w.grownBy w' row) {k : Nat} {c : Array Value} {t : TypeId} (h : blk w k c t) (hne : row ≠ some k) : blk w' k c t :=
  (hg.block k (blk_lt h) (fun e => hne e.symm)).trans h
theorem wpList_app20 {P : Program} {w : World} {ops : Array Oper} {rest : List Oper} {o : Oper} {a : Act} {Q : Exit → Act → World → Prop} (hg : o.guard = none) (s x : Operand) (t : TypeId)
    (ho : o.op = .call { callee := .builtin .append, args := #[s, x], argTypes := #[t, t] })
    (B : Nat) (e : TypeId) (i : TypeInfo) (z : Value) (bytes : Nat) (ht : P.underlying t = some (.slice e)) (hi : P.info? e = some i) (hz : i.zero = some z) (hsize : i.size = 2) (hby : i.bytes = bytes) (hzs : z.cells.size = 2)
    (v : Value) (n : Nat) (xs : List Value) (hs : a.eval s = v) (hown : w.ownsRow B e 2 v n xs) (b : Nat) (y1 y2 : Value) (te : TypeId) (hx : a.eval x = .slice (some ⟨b, 0, none⟩) 1 1) (hy : blk w b #[y1, y2] te) (h1 : y1.oneCell' = true) (h2 : y2.oneCell' = true)
    (h63 : n + 1 ≤ maxLen) (hbytes : (n + 1) * bytes ≤ 140737488355328) (hB : B ≤ w.heap.size)
    (h : ∀ v' w', w'.ownsRow B e 2 v' (n + 1) (xs ++ [y1, y2]) → Below B w w' → w.grownBy w' v.ownBlock → (v'.ownBlock = v.ownBlock ∨ v'.ownBlock = some w.heap.size) → wpList P ops Q rest (a.put o.dst v') w') : wpList P ops Q (o :: rest) a w := by
  refine wpList_append_own_at w hg s x t ho B e i z 2 bytes ht hi hz hsize hby hzs (by decide) v n xs hs hown ⟨b, 0, none⟩ 1 1 [y1, y2] hx rfl (fun j u hj => ?_) (fun u hu => ?_) h63 hbytes hB (fun v' w' h2 h3 _ h5 => h v' w' h2 ?_ h3 h5)
  · match j, hj with
    | 0, hj => simp at hj; subst hj; simpa [Addr.add] using blk_cell hy 0
    | 1, hj => simp at hj; subst hj; simpa [Addr.add] using blk_cell hy 1
  · simp at hu; rcases hu with rfl | rfl <;> assumption
  · refine ⟨h3.os, h3.tape, h3.output, h3.size, fun k hk => h3.block k (by omega) fun hk' => ?_⟩
    obtain ⟨_, ⟨rfl, _⟩ | ⟨g, cap, cur, rfl, hBg, _⟩⟩ := hown
    · simp [Value.ownBlock] at hk'
    · simp [Value.ownBlock] at hk'; omega

def prs (L : Bxs) (e : Int × Bx) : List (Int × Int) := ((hitL L fun b => Bx.ovl b e.2).filter fun j => decide (e.1 < j)).map fun j => (e.1, j)
def prL (L : Bxs) : List (Int × Int) := L.flatMap (prs L)
theorem ovl_self {x : Bx} (h : x.val = true) : x.ovl x = true := by
  obtain ⟨h1, h2, _⟩ := Bx.val_iff.1 h
  simp only [Bx.ovl, h, Bool.and_eq_true, decide_eq_true_eq, true_and]
  exact ⟨⟨⟨by omega, by omega⟩, by omega⟩, by omega⟩

theorem info_pair : (Tryz.prog.info? 49).map (fun i => (i.zero, i.size, i.bytes)) = some (some (.agg #[.int .i64 0, .int .i64 0]), 2, 16) := by kernel_rfl

theorem own_hid {w : World} {B n k : Nat} {e : TypeId} {v : Value} {xs : List Value} (h : w.ownsRow B e k v n xs) : Hid (w.ownsRow B e k v n xs) := h
theorem pv_append20 : ∀ a b : List (Int × Int), pv (a ++ b) = pv a ++ pv b
  | [], _ => rfl
  | p :: a, b => by simp [pv, pv_append20 a b]

end Go.Proofs.YtaahgblkmajceaaGreat

set_option linter.unusedVariables false
set_option linter.unusedSimpArgs false
namespace Go.Proofs.YtaahgblkmajceaaGreat
open Go.RowKit Fx

section
variable {P : Program} {SL E : TypeId} {sz B n : Nat} {v : Value} {xs : List Value} {w : World}
theorem row_len (hu : P.underlying SL = some (.slice E)) (h : w.ownsRow B E sz v n xs) (ty : TypeId) (W : World) : (Builtin.len_ #[SL] ty #[v]).run P W = .ok (.int .i64 (n : Int)) W := by
  obtain ⟨_, ⟨rfl, rfl⟩ | ⟨g, cap, cur, rfl, hB, hh, hn, hm, hc, ht⟩⟩ := h <;> simp [Builtin.len_, run_underlying hu] <;> rfl
theorem row_ix (hu : P.underlying SL = some (.slice E)) (hs : ∀ W, (Go.sizeOf E).run P W = .ok sz W) (h : w.ownsRow B E sz v n xs) {i : Nat} (hi : i < n) (hl : xs.length = n * sz) :
    ∃ g, g < w.heap.size ∧ v.ownBlock = some g ∧ (∀ W, (Instr.indexAt SL v (.int .i64 (i : Int))).run P W = .ok (.pointer (some ⟨g, i * sz, none⟩)) W) ∧ ∀ j, j < sz → w.cell? ⟨g, i * sz + j, none⟩ = xs[i * sz + j]? := by
  obtain ⟨_, ⟨rfl, rfl⟩ | ⟨g, cap, cur, rfl, hB, hh, hn, hm, hc, ht⟩⟩ := h
  · omega
  · refine ⟨g, (Array.getElem?_eq_some_iff.1 hh).1, rfl, fun W => ?_, fun j hj => ?_⟩
    · have e : Addr.add ⟨g, 0, none⟩ (i * sz) = ⟨g, i * sz, none⟩ := by
        unfold Addr.add; split
        · rename_i h0; rw [h0]
        · simp
      simp [Instr.indexAt, run_underlying hu, asIntOf, hs, hi, e, go_sem]
    · have hb : blk w g cur E := hh
      have hlt : i * sz + j < n * sz := by
        have : (i + 1) * sz ≤ n * sz := Nat.mul_le_mul_right _ hi
        rw [Nat.add_mul] at this; omega
      rw [blk_cell hb, ← ht, List.getElem?_take, if_pos hlt]
      simp
theorem owns_but {w' : World} {S : Nat → Prop} (h : w.ownsRow B E sz v n xs) (hb : But S w w') (hs : ∀ k, v.ownBlock = some k → ¬ S k) : w'.ownsRow B E sz v n xs := by
  obtain ⟨h1, h2 | ⟨g, cap, cur, rfl, hB, hh, r⟩⟩ := h
  · exact ⟨h1, .inl h2⟩
  · exact ⟨h1, .inr ⟨g, cap, cur, rfl, hB, (hb.block g (Array.getElem?_eq_some_iff.1 hh).1 (hs g rfl)).trans hh, r⟩⟩
end

theorem iv_at (xs : List Int) (k : Nat) (h : k < xs.length) : (iv xs)[k]? = some (.int .i64 xs[k]) := by simp [iv, h]
theorem pv_at : ∀ (ps : List (Int × Int)) (k : Nat) (h : k < ps.length), (pv ps)[k * 2]? = some (.int .i64 ps[k].1) ∧ (pv ps)[k * 2 + 1]? = some (.int .i64 ps[k].2)
  | p :: ps, 0, _ => ⟨rfl, rfl⟩
  | p :: ps, k + 1, h => by
    have := pv_at ps k (by simpa using h)
    rw [show (k + 1) * 2 = k * 2 + 2 by omega, show k * 2 + 2 + 1 = (k * 2 + 1) + 2 by omega]
    simpa [pv] using this
theorem pv_len20 : ∀ ps : List (Int × Int), (pv ps).length = ps.length * 2
  | [] => rfl
  | p :: ps => by simp [pv, pv_len20 ps]; omega

theorem sz_int (W : World) : (Go.sizeOf 3).run Tryz.prog W = .ok 1 W := by kernel_rfl

theorem sz_pair (W : World) : (Go.sizeOf 49).run Tryz.prog W = .ok 2 W := by kernel_rfl

theorem u_ints : Tryz.prog.underlying 94 = some (.slice 3) := by kernel_rfl

theorem u_pairs : Tryz.prog.underlying 47 = some (.slice 49) := by kernel_rfl

theorem ints_ix {w : World} {B : Nat} {v : Value} {xs : List Int} (h : w.ownsRow B 3 1 v xs.length (iv xs)) {k : Nat} (hk : k < xs.length) : ∃ g, v.ownBlock = some g ∧ (∀ W, (Instr.indexAt 94 v (.int .i64 (k : Int))).run Tryz.prog W = .ok (.pointer (some ⟨g, k, none⟩)) W) ∧ ∀ w', Below w.heap.size w w' → older g w' = true ∧ w'.cell? ⟨g, k, none⟩ = some (.int .i64 xs[k]) := by
  obtain ⟨g, h1, h2, h3, h4⟩ := row_ix u_ints sz_int h hk (by simp)
  simp only [Nat.mul_one] at h3 h4
  refine ⟨g, h2, h3, fun w' hb => ?_⟩
  have := h4 0 (by decide)
  rw [Nat.add_zero, iv_at xs k hk] at this
  exact ⟨older_iff.2 (Nat.lt_of_lt_of_le h1 hb.size), (hb.cell (p := ⟨g, k, none⟩) h1).trans this⟩

theorem pairs_ix {w : World} {B : Nat} {v : Value} {xs : List (Int × Int)} (h : w.ownsRow B 49 2 v xs.length (pv xs)) {k : Nat} (hk : k < xs.length) : ∃ g, v.ownBlock = some g ∧ (∀ W, (Instr.indexAt 47 v (.int .i64 (k : Int))).run Tryz.prog W = .ok (.pointer (some ⟨g, k * 2, none⟩)) W) ∧ ∀ w', Below w.heap.size w w' → older g w' = true ∧ w'.cell? ⟨g, k * 2, none⟩ = some (.int .i64 xs[k].1) ∧ w'.cell? ⟨g, k * 2 + 1, none⟩ = some (.int .i64 xs[k].2) := by
  obtain ⟨g, h1, h2, h3, h4⟩ := row_ix u_pairs sz_pair h hk (pv_len20 xs)
  refine ⟨g, h2, h3, fun w' hb => ?_⟩
  have a := h4 0 (by decide)
  have b := h4 1 (by decide)
  rw [Nat.add_zero, (pv_at xs k hk).1] at a
  rw [(pv_at xs k hk).2] at b
  exact ⟨older_iff.2 (Nat.lt_of_lt_of_le h1 hb.size), (hb.cell (p := ⟨g, k * 2, none⟩) h1).trans a, (hb.cell (p := ⟨g, k * 2 + 1, none⟩) h1).trans b⟩

theorem u_pair : Tryz.prog.underlying 49 = some (.array 2 3) := by kernel_rfl

theorem u_int : Tryz.prog.underlying 3 = some (.int .i64) := by kernel_rfl

theorem agg_int (W : World) : (isAgg 3).run Tryz.prog W = .ok false W := by kernel_rfl

theorem eq_pair (d : Nat) (a b c e : Int) (W : World) : (Op.equalIn (d + 2) 49 (.agg #[.int .i64 a, .int .i64 b]) (.agg #[.int .i64 c, .int .i64 e])).run Tryz.prog W = .ok (a == c && b == e) W := by
  have hi := fun x y => run_equalIn_int (P := Tryz.prog) W d 3 .i64 .i64 x y u_int
  rw [Op.equalIn]
  simp only [Sem.run_bind, run_underlying u_pair, Result.andThen]
  simp [go_sem, List.range', Sem.run_bind, agg_int, hi, Result.andThen]
  by_cases h1 : a = c
  · by_cases h2 : b = e
    · simp [h1, h2, Sem.run_bind, Result.andThen, agg_int, hi]
    · simp [h1, h2, Sem.run_bind, Result.andThen, agg_int, hi]
  · simp [h1, Sem.run_bind, Result.andThen, agg_int, hi]

theorem neq_pair (a b c e : Int) (W : World) : (binOp .neq 49 (.agg #[.int .i64 a, .int .i64 b]) (.agg #[.int .i64 c, .int .i64 e])).run Tryz.prog W = .ok (.bool (!(a == c && b == e))) W := by
  rw [run_neq_struct]
  have := eq_pair 9998 a b c e W
  simp only [this, Result.andThen]

end Go.Proofs.YtaahgblkmajceaaGreat

set_option linter.unusedVariables false
set_option linter.unusedSimpArgs false
namespace Go.Proofs.YtaahgblkmajceaaGreat
open Go.RowKit Fx

def Rg (L : Bxs) (a b : Nat) : Prop := L.length = b - a ∧ a ≤ b ∧ ∀ i : Int, (∃ e ∈ L, e.1 = i) ↔ (a : Int) ≤ i ∧ i < b
end Go.Proofs.YtaahgblkmajceaaGreat

set_option linter.unusedVariables false
namespace Go.Proofs.YtaahgblkmajceaaGreat
open Go.RowKit Fx

def bxc (f : Bx) : List Value := [.int .i64 f.x0, .int .i64 f.y0, .int .i64 f.x1, .int .i64 f.y1]
abbrev Bxa (w : World) (A : Option Addr) (l : List Bx) : Prop := Els w 4 (fun cs f => cs = bxc f) A l
theorem Bxa.to {w w' : World} {A : Option Addr} {l : List Bx} (h : Bxa w A l) (hb : Below w.heap.size w w') : Bxa w' A l := Els.to h (by decide) (fun _ _ h => h) hb
theorem bxa_open {w : World} {A : Option Addr} {l : List Bx} (h : Bxa w A l) (h0 : 0 < l.length) : ∃ b off, A = some ⟨b, off, none⟩ ∧ b < w.heap.size ∧ ∀ i (h : i < l.length) w', Below w.heap.size w w' → older b w' = true ∧ w'.cell? ⟨b, off + i * 4, none⟩ = some (.int .i64 l[i].x0) ∧ w'.cell? ⟨b, off + i * 4 + 1, none⟩ = some (.int .i64 l[i].y0) ∧ w'.cell? ⟨b, off + i * 4 + 2, none⟩ = some (.int .i64 l[i].x1) ∧ w'.cell? ⟨b, off + i * 4 + 3, none⟩ = some (.int .i64 l[i].y1) := by
  rcases h with h | ⟨b, off, rfl, hc⟩
  · rw [h] at h0; simp at h0
  · have hlt : b < w.heap.size := by
      obtain ⟨cs, _, k, rfl⟩ := hc 0 h0
      exact World.block_lt_of_cell? w ⟨b, off + 0 * 4 + 0, none⟩ (show _ = some (Value.int .i64 l[0].x0) from k 0 (by decide))
    refine ⟨b, off, rfl, hlt, fun i hi w' hb => ?_⟩
    obtain ⟨cs, _, k, rfl⟩ := hc i hi
    exact ⟨(by have := hb.size; simp [older]; omega), (hb.cell (p := ⟨b, off + i * 4 + 0, none⟩) hlt).trans (k 0 (by decide)), (hb.cell (p := ⟨b, off + i * 4 + 1, none⟩) hlt).trans (k 1 (by decide)), (hb.cell (p := ⟨b, off + i * 4 + 2, none⟩) hlt).trans (k 2 (by decide)), (hb.cell (p := ⟨b, off + i * 4 + 3, none⟩) hlt).trans (k 3 (by decide))⟩

structure Opr where
  k : Int
  i : Int
  x0 : Int
  y0 : Int
  x1 : Int
  y1 : Int
  deriving DecidableEq, Inhabited
def opc (f : Opr) : List Value := [.int .i64 f.k, .int .i64 f.i, .int .i64 f.x0, .int .i64 f.y0, .int .i64 f.x1, .int .i64 f.y1]
abbrev Oprs (w : World) (A : Option Addr) (l : List Opr) : Prop := Els w 6 (fun cs f => cs = opc f ∧ i64k f.i) A l
theorem Oprs.to {w w' : World} {A : Option Addr} {l : List Opr} (h : Oprs w A l) (hb : Below w.heap.size w w') : Oprs w' A l := Els.to h (by decide) (fun _ _ h => h) hb
section
open Go.ChangeShapes Go.WideShapes Go.Deep
variable {H : Type} {enc : TypeId × Value → H} {w : World} {base B : Nat} {spare : Nat → Bool} {held : Bool}
theorem rd_intw20 {P : Program} {t : TypeId} {k : IntKind} {fuel : Nat} {cs : List Value} {x : DataW H × List MemPlace} (ht : P.underlying t = some (.int k)) (h : DataW.trod enc P w base spare held fuel t cs = some x) : ∃ n, cs = [.int k n] ∧ (Lit.int k n).wf = true := by
  obtain ⟨n, e, _, h2⟩ := DataW.trod_int ht h; exact ⟨n, e, h2⟩
theorem i64_of_wf {n : Int} (h : (Lit.int .i64 n).wf = true) : i64k n := by
  simp [Lit.wf, IntKind.min, IntKind.max, IntKind.signed, IntKind.bits] at h
  unfold i64k; omega

end

end Go.Proofs.YtaahgblkmajceaaGreat
