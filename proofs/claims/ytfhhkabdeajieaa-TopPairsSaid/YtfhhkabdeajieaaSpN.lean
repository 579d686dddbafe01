/- Chapter 21, the landed code: neighbors, an iterator over a part of a slice. -/
import Derived.Test.YtfhhkabdeajieaaSpR
import Derived.RangeFuncNested
import Derived.RangeFuncBound
import Derived.RangeFuncCalls
import Derived.RangeFuncLeaves
import Derived.Shelf.Abstract
import Derived.Shelf.RegionOpen
import Derived.WalkKit
import Derived.OwnWalkIn
import Derived.TacticsInMore
import Derived.LoopNIn
import Derived.LoopIn
set_option linter.unusedVariables false
set_option linter.unusedSimpArgs false
namespace Go.Proofs.Ytfhhkabdeajieaa
open Go.RowKit Fx Go.Maps Go.Shelf

attribute [local go_sem] Oper.semAt_some

theorem cell_same {w w' : World} {b : Nat} (h : w'.heap[b]? = w.heap[b]?) (i : Nat) : w'.cell? ⟨b, i, none⟩ = w.cell? ⟨b, i, none⟩ := by simp [World.cell?, h]
theorem frozen_same {w w' : World} {b : Nat} (h : w'.heap[b]? = w.heap[b]?) (i : Nat) : w'.frozen? ⟨b, i, none⟩ = w.frozen? ⟨b, i, none⟩ := by simp [World.frozen?, h]
theorem blk_same21 {w w' : World} {b : Nat} {c : Array Value} {t : TypeId} (h : w'.heap[b]? = w.heap[b]?) (k : blk w b c t) : blk w' b c t := h.trans k
/-- The blocks of R are as they were. -/
def KpR (R : Nat → Prop) (w w' : World) : Prop := w.heap.size ≤ w'.heap.size ∧ ∀ k, R k → w'.heap[k]? = w.heap[k]?
theorem KpR.refl (R : Nat → Prop) (w : World) : KpR R w w := ⟨Nat.le_refl _, fun _ _ => rfl⟩
theorem KpR.trans {R : Nat → Prop} {A B C : World} (h : KpR R A B) (k : KpR R B C) : KpR R A C := ⟨Nat.le_trans h.1 k.1, fun b hb => (k.2 b hb).trans (h.2 b hb)⟩
theorem KpR.below {R : Nat → Prop} {A B : World} (hR : ∀ k, R k → k < A.heap.size) (h : Below A.heap.size A B) : KpR R A B := ⟨h.size, fun b hb => h.block b (hR b hb)⟩
theorem KpR.book {R : Nat → Prop} {w : World} (hR : ∀ k, R k → k < w.heap.size) (W : World) (l : Nat) (o o' : Obj) (hl : w.heap.size ≤ l) (h : W.heap[l]? = some o) (_ : o.isCells = false) (_ : o.isWalk = false) : KpR R W (W.putObj l o') :=
  ⟨by simp, fun k hk => World.putObj_heap_other (by have := hR k hk; omega)⟩
theorem take_while_at {F : Type} {p : F → Bool} : ∀ {l : List F} {k : Nat}, k ≤ l.length → (∀ j (h : j < l.length), j < k → p l[j] = true) → (∀ h : k < l.length, p l[k] = false) → l.takeWhile p = l.take k
  | [], k, _, _, _ => by simp
  | x :: l, 0, _, _, h => by
    have := h (by simp)
    simp only [List.getElem_cons_zero] at this
    simp [this]
  | x :: l, k + 1, hk, hl, hr => by
    have h0 := hl 0 (by simp) (by omega)
    simp only [List.getElem_cons_zero] at h0
    simp only [List.length_cons] at hk
    have := take_while_at (l := l) (k := k) (p := p) (by omega) (fun j h hj => by have := hl (j + 1) (by simp; omega) (by omega); simpa using this) (fun h => by have := hr (by simp; omega); simpa using this)
    simp [h0, this]
def ecE (e : En) : Array Value := #[.agg #[.int .i64 e.1, .int .i64 e.2.x0, .int .i64 e.2.y0, .int .i64 e.2.x1, .int .i64 e.2.y1]]

set_option maxRecDepth 100000 in
set_option maxHeartbeats 4000000 in
theorem nbr_b (e0 e1 e2 e3 e4 : Int) (A : Option Addr) (len cap : Nat) (w : World) : Calls Try.prog 38 #[.agg #[.int .i64 e0, .int .i64 e1, .int .i64 e2, .int .i64 e3, .int .i64 e4], .slice A len cap] w fun e w' => e = .returned (.func (.func 57) #[] #[.pointer (some ⟨w.heap.size + 1, 0, none⟩), .pointer (some ⟨w.heap.size, 0, none⟩)]) ∧ blk w' w.heap.size #[.int .i64 e0, .int .i64 e1, .int .i64 e2, .int .i64 e3, .int .i64 e4] 33 ∧ blk w' (w.heap.size + 1) #[.slice A len cap] 22 ∧ Below w.heap.size w w' := by
  go_enter Try.func38, Try.ntmps38
  go_wp2_with fail
  go_ret
  exact ⟨rfl, bBkn, bBkn, bBel⟩

set_option maxRecDepth 100000 in
set_option maxHeartbeats 4000000 in
theorem nbrs_in (n : Nat) (hn : 1 ≤ n) (lr ab eb : Nat) (e0 e1 e2 e3 e4 : Int) (A : Option Addr) (cap : Nat) (r : List En) (hr : r.length ≤ 100000) (R : Nat → Prop) (hRa : R ab) (hRe : R eb) (hRb : ∀ b off, A = some ⟨b, off, none⟩ → 0 < r.length → R b) (J Jx : List En → World → Prop)
    (W : World) (hRl : ∀ k, R k → k < W.heap.size) (kE : blk W eb #[.int .i64 e0, .int .i64 e1, .int .i64 e2, .int .i64 e3, .int .i64 e4] 33) (kA : blk W ab #[.slice A r.length cap] 22) (hE : Ents W A r)
    (hJ : ∀ s X o, J s X → J s (X.alloc o))
    (hY : ∀ pre x X, J pre X → pre.length < r.length → YieldAt Fence.wide (n - 1) Try.prog lr (ecE x) X fun e W' =>
      (e = .returned (.bool true) ∧ J (pre ++ [x]) W' ∧ KpR R X W') ∨ (e = .returned (.bool false) ∧ Jx (pre ++ [x]) W'))
    (h0 : J [] W) :
    CallsIn Fence.wide n Try.prog 57 #[.func (.yield lr) #[] #[], .pointer (some ⟨ab, 0, none⟩), .pointer (some ⟨eb, 0, none⟩)] W fun e W' => (∃ v, e = .returned v) ∧
      ((∃ ys, ys = r.takeWhile (fun f => decide (f.2.x0 ≤ e3)) ∧ J ys W') ∨ (∃ pre, True ∧ Jx pre W')) := by
  have ca0 := blk_cell kA 0
  have fa0 := blk_free kA 0
  have oa0 := blk_older kA
  refine callsIn_of_wp Try.func57 rfl trivial ?_ rfl
  simp only [Try.ntmps57, List.size_toArray, List.length_cons, List.length_nil, Nat.reduceAdd, Nat.reduceSub, Array.replicate_succ, Array.replicate_zero, List.push_toArray, List.append_toArray, List.nil_append, List.cons_append]
  gi_wp2
  gi_loopw [8] (fun i wr => ∃ k : Nat, k ≤ r.length ∧ i = .int .i64 k ∧ J (r.take k) wr ∧ KpR R W wr ∧ Hid (∀ j (h : j < r.length), j < k → decide (r[j].2.x0 ≤ e3) = true))
    (fun i _ => r.length - (intOf i).toNat)
  case atStart => exact ⟨0, by omega, rfl, by simpa using h0, KpR.refl _ _, fun j _ h => by omega⟩
  case round =>
    obtain ⟨k, hk, rfl, hJs, hK, hpre⟩ := hrel
    by_cases hlt : k < r.length
    · have i0 : (0 : Int) ≤ (k : Int) := by omega
      have i1 : (k : Int) < (r.length : Int) := by omega
      obtain ⟨b, off, rfl, hbl, hc⟩ := ents_open hE (by omega)
      obtain ⟨ob0, d0, d1, d2, d3, d4⟩ := hc k hlt W (Below.refl _ _)
      have hbb := hK.2 b (hRb b off rfl (by omega))
      rw [← cell_same hbb] at d0 d1 d2 d3 d4
      have kEr := blk_same21 (hK.2 eb hRe) kE
      have kAr := blk_same21 (hK.2 ab hRa) kA
      have hst : Hid (r.take (k + 1) = r.take k ++ [r[k]]) := by show _ = _; simp
      have hbk : Hid (decide (r[k].2.x0 ≤ e3) = decide (r[k].2.x0 ≤ e3)) := rfl
      have hJX : J (r.take k) (wr.alloc (.cells #[.int .i64 r[k].1, .int .i64 r[k].2.x0, .int .i64 r[k].2.y0, .int .i64 r[k].2.x1, .int .i64 r[k].2.y1] 33)) := hJ _ _ _ hJs
      have hYk := hY (r.take k) r[k] _ hJX (by rw [List.length_take]; omega)
      have hpre2 : Hid (decide (r[k].2.x0 ≤ e3) = true → ∀ j (h : j < r.length), j < k + 1 → decide (r[j].2.x0 ≤ e3) = true) := fun h2 j hj hjk => by
        rcases Nat.lt_or_eq_of_le (Nat.le_of_lt_succ hjk) with h | rfl
        · exact hpre.out j hj h
        · exact h2
      have hstop : Hid (decide (r[k].2.x0 ≤ e3) = false → r.takeWhile (fun f => decide (f.2.x0 ≤ e3)) = r.take k) := fun h2 => take_while_at hk hpre.out (fun _ => h2)
      clear hc hJX hpre hbb
      unfold ecE at hYk
      generalize r[k] = x at *
      obtain ⟨i, x0, y0, x1, y1⟩ := x
      dsimp only at d0 d1 d2 d3 d4 hYk hpre2 hstop
      have okEr := blk_older kEr
      have ckEr_0 : _ = some _ := blk_cell kEr 0
      have ckEr_1 : _ = some _ := blk_cell kEr 1
      have ckEr_2 : _ = some _ := blk_cell kEr 2
      have ckEr_3 : _ = some _ := blk_cell kEr 3
      have ckEr_4 : _ = some _ := blk_cell kEr 4
      have fkEr_0 := blk_free kEr 0
      have fkEr_1 := blk_free kEr 1
      have fkEr_2 := blk_free kEr 2
      have fkEr_3 := blk_free kEr 3
      have fkEr_4 := blk_free kEr 4
      have okAr := blk_older kAr
      have ckAr_0 : _ = some _ := blk_cell kAr 0
      have fkAr_0 := blk_free kAr 0
      by_cases hgt : x0 > e3
      · have hs2 := hstop.out (by simpa using hgt)
        have hJ9 : Hid (J (r.take k) wr) := hJs
        have hs9 : Hid (r.takeWhile (fun f => decide (f.2.x0 ≤ e3)) = r.take k) := hs2
        clear hs2 hstop hpre2 hYk hJs hst
        have hJ8 : Hid (J (r.take k) (wr.alloc (.cells #[.int .i64 i, .int .i64 x0, .int .i64 y0, .int .i64 x1, .int .i64 y1] 33))) := hJ _ _ _ hJ9.out
        gi_wp2
        refine ⟨fun _ _ => trivial, ?_⟩
        gi_wp2
        refine bodyPost_ret (results_none rfl _ _ _) rfl ?_
        exact ⟨⟨_, rfl⟩, .inl ⟨_, hs9.out.symm, hJ8.out⟩⟩
      · have hp9 := hpre2.out (by simpa using hgt)
        have hp8 : Hid (∀ j (h : j < r.length), j < k + 1 → decide (r[j].2.x0 ≤ e3) = true) := hp9
        clear hp9 hpre2 hstop
        obtain ⟨fn, tmps, assign, body, hy, hR⟩ := hYk
        gi_wp2
        refine hR.mono ?_
        have hKX : KpR R W (wr.alloc (.cells #[.int .i64 i, .int .i64 x0, .int .i64 y0, .int .i64 x1, .int .i64 y1] 33)) := hK.trans (KpR.below (fun k' hk' => Nat.lt_of_lt_of_le (hRl k' hk') hK.1) ((Below.refl _ wr).alloc (Nat.le_refl _) _))
        clear hR hy
        rintro e W3 (⟨rfl, hJ3, hk3⟩ | ⟨rfl, hJx3⟩)
        · rw [← hst.out] at hJ3
          have hJ9 : Hid (J (r.take (k + 1)) W3) := hJ3
          clear hJ3 hst
          gi_wp2
          go_roundw
          case rel => exact ⟨k + 1, by omega, by go_num, hJ9.out, hKX.trans hk3, hp8⟩
          case measure => (try go_num); simp [intOf]; (try omega)
        · rw [← hst.out] at hJx3
          have hJ9 : Hid (Jx (r.take (k + 1)) W3) := hJx3
          clear hJx3 hst
          gi_wp2
          refine bodyPost_ret (results_none rfl _ _ _) rfl ?_
          exact ⟨⟨_, rfl⟩, .inr ⟨_, trivial, hJ9.out⟩⟩
    · obtain rfl : k = r.length := by omega
      have hw : r.takeWhile (fun f => decide (f.2.x0 ≤ e3)) = r := by
        rw [take_while_at (k := r.length) (Nat.le_refl _) hpre.out (fun h => by omega), List.take_length]
      rw [List.take_length] at hJs
      have hJ9 : Hid (J r wr) := hJs
      clear hJs hpre
      gi_wp2
      go_end0
      exact ⟨⟨_, rfl⟩, .inl ⟨_, hw.symm, hJ9.out⟩⟩

end Go.Proofs.Ytfhhkabdeajieaa
