/- Chapter 21, the landed code: neighbors, an iterator over a part of a slice.
Chapter 21, the landed code: Pairs. -/
import Derived.Test.YtaahgblkmajceaaGreatSg2
import Derived.RangeFuncNested
import Derived.RangeFuncBound
import Derived.RangeFuncCalls
import Derived.RangeFuncLeaves
import Derived.Shelf.Abstract
import Derived.Shelf.RegionOpen
import Derived.WalkKit
import Derived.OwnWalkIn
import Derived.TacticsInMore
import Derived.LoopNIn
import Derived.LoopIn

set_option linter.unusedVariables false
set_option linter.unusedSimpArgs false
namespace Go.Proofs.YtaahgblkmajceaaGreat
open Go.RowKit Fx Go.Maps Go.Shelf

attribute [local go_sem] Oper.semAt_some

theorem cell_same {w w' : World} {b : Nat} (h : w'.heap[b]? = w.heap[b]?) (i : Nat) : w'.cell? ⟨b, i, none⟩ = w.cell? ⟨b, i, none⟩ := by simp [World.cell?, h]
theorem frozen_same {w w' : World} {b : Nat} (h : w'.heap[b]? = w.heap[b]?) (i : Nat) : w'.frozen? ⟨b, i, none⟩ = w.frozen? ⟨b, i, none⟩ := by simp [World.frozen?, h]
theorem blk_same21 {w w' : World} {b : Nat} {c : Array Value} {t : TypeId} (h : w'.heap[b]? = w.heap[b]?) (k : blk w b c t) : blk w' b c t := h.trans k
def KpR (R : Nat → Prop) (w w' : World) : Prop := w.heap.size ≤ w'.heap.size ∧ ∀ k, R k → w'.heap[k]? = w.heap[k]?
theorem KpR.refl (R : Nat → Prop) (w : World) : KpR R w w := ⟨Nat.le_refl _, fun _ _ => rfl⟩
theorem KpR.trans {R : Nat → Prop} {A B C : World} (h : KpR R A B) (k : KpR R B C) : KpR R A C := ⟨Nat.le_trans h.1 k.1, fun b hb => (k.2 b hb).trans (h.2 b hb)⟩
theorem KpR.below {R : Nat → Prop} {A B : World} (hR : ∀ k, R k → k < A.heap.size) (h : Below A.heap.size A B) : KpR R A B := ⟨h.size, fun b hb => h.block b (hR b hb)⟩
theorem KpR.book {R : Nat → Prop} {w : World} (hR : ∀ k, R k → k < w.heap.size) (W : World) (l : Nat) (o o' : Obj) (hl : w.heap.size ≤ l) (h : W.heap[l]? = some o) (_ : o.isCells = false) (_ : o.isWalk = false) : KpR R W (W.putObj l o') :=
  ⟨by simp, fun k hk => World.putObj_heap_other (by have := hR k hk; omega)⟩
theorem take_while_at {F : Type} {p : F → Bool} : ∀ {l : List F} {k : Nat}, k ≤ l.length → (∀ j (h : j < l.length), j < k → p l[j] = true) → (∀ h : k < l.length, p l[k] = false) → l.takeWhile p = l.take k
  | [], k, _, _, _ => by simp
  | x :: l, 0, _, _, h => by
    have := h (by simp)
    simp only [List.getElem_cons_zero] at this
    simp [this]
  | x :: l, k + 1, hk, hl, hr => by
    have h0 := hl 0 (by simp) (by omega)
    simp only [List.getElem_cons_zero] at h0
    simp only [List.length_cons] at hk
    have := take_while_at (l := l) (k := k) (p := p) (by omega) (fun j h hj => by have := hl (j + 1) (by simp; omega) (by omega); simpa using this) (fun h => by have := hr (by simp; omega); simpa using this)
    simp [h0, this]
def ecE (e : En) : Array Value := #[.agg #[.int .i64 e.1, .int .i64 e.2.x0, .int .i64 e.2.y0, .int .i64 e.2.x1, .int .i64 e.2.y1]]

set_option maxRecDepth 100000 in
set_option maxHeartbeats 4000000 in
theorem nbr_b (e0 e1 e2 e3 e4 : Int) (A : Option Addr) (len cap : Nat) (w : World) : Calls Tryz.prog 37 #[.agg #[.int .i64 e0, .int .i64 e1, .int .i64 e2, .int .i64 e3, .int .i64 e4], .slice A len cap] w fun e w' => e = .returned (.func (.func 54) #[] #[.pointer (some ⟨w.heap.size + 1, 0, none⟩), .pointer (some ⟨w.heap.size, 0, none⟩)]) ∧ blk w' w.heap.size #[.int .i64 e0, .int .i64 e1, .int .i64 e2, .int .i64 e3, .int .i64 e4] 46 ∧ blk w' (w.heap.size + 1) #[.slice A len cap] 38 ∧ Below w.heap.size w w' := by
  go_enter Tryz.func37, Tryz.ntmps37
  go_wp2_with fail
  go_ret
  exact ⟨rfl, bBkn, bBkn, bBel⟩

set_option maxRecDepth 100000 in
set_option maxHeartbeats 4000000 in
theorem nbrs_in (n : Nat) (hn : 1 ≤ n) (lr ab eb : Nat) (e0 e1 e2 e3 e4 : Int) (A : Option Addr) (cap : Nat) (r : List En) (hr : r.length ≤ 100000) (R : Nat → Prop) (hRa : R ab) (hRe : R eb) (hRb : ∀ b off, A = some ⟨b, off, none⟩ → 0 < r.length → R b) (J Jx : List En → World → Prop)
    (W : World) (hRl : ∀ k, R k → k < W.heap.size) (kE : blk W eb #[.int .i64 e0, .int .i64 e1, .int .i64 e2, .int .i64 e3, .int .i64 e4] 46) (kA : blk W ab #[.slice A r.length cap] 38) (hE : Ents W A r)
    (hJ : ∀ s X o, J s X → J s (X.alloc o))
    (hY : ∀ pre x X, J pre X → pre.length < r.length → YieldAt Fence.wide (n - 1) Tryz.prog lr (ecE x) X fun e W' =>
      (e = .returned (.bool true) ∧ J (pre ++ [x]) W' ∧ KpR R X W') ∨ (e = .returned (.bool false) ∧ Jx (pre ++ [x]) W'))
    (h0 : J [] W) :
    CallsIn Fence.wide n Tryz.prog 54 #[.func (.yield lr) #[] #[], .pointer (some ⟨ab, 0, none⟩), .pointer (some ⟨eb, 0, none⟩)] W fun e W' => (∃ v, e = .returned v) ∧
      ((∃ ys, ys = r.takeWhile (fun f => decide (f.2.x0 ≤ e3)) ∧ J ys W') ∨ (∃ pre, True ∧ Jx pre W')) := by
  have ca0 := blk_cell kA 0
  have fa0 := blk_free kA 0
  have oa0 := blk_older kA
  refine callsIn_of_wp Tryz.func54 rfl trivial ?_ rfl
  simp only [Tryz.ntmps54, List.size_toArray, List.length_cons, List.length_nil, Nat.reduceAdd, Nat.reduceSub, Array.replicate_succ, Array.replicate_zero, List.push_toArray, List.append_toArray, List.nil_append, List.cons_append]
  gi_wp2
  gi_loopw [8] (fun i wr => ∃ k : Nat, k ≤ r.length ∧ i = .int .i64 k ∧ J (r.take k) wr ∧ KpR R W wr ∧ Hid (∀ j (h : j < r.length), j < k → decide (r[j].2.x0 ≤ e3) = true))
    (fun i _ => r.length - (intOf i).toNat)
  case atStart => exact ⟨0, by omega, rfl, by simpa using h0, KpR.refl _ _, fun j _ h => by omega⟩
  case round =>
    obtain ⟨k, hk, rfl, hJs, hK, hpre⟩ := hrel
    by_cases hlt : k < r.length
    · have i0 : (0 : Int) ≤ (k : Int) := by omega
      have i1 : (k : Int) < (r.length : Int) := by omega
      obtain ⟨b, off, rfl, hbl, hc⟩ := ents_open hE (by omega)
      obtain ⟨ob0, d0, d1, d2, d3, d4⟩ := hc k hlt W (Below.refl _ _)
      have hbb := hK.2 b (hRb b off rfl (by omega))
      rw [← cell_same hbb] at d0 d1 d2 d3 d4
      have kEr := blk_same21 (hK.2 eb hRe) kE
      have kAr := blk_same21 (hK.2 ab hRa) kA
      have hst : Hid (r.take (k + 1) = r.take k ++ [r[k]]) := by show _ = _; simp
      have hbk : Hid (decide (r[k].2.x0 ≤ e3) = decide (r[k].2.x0 ≤ e3)) := rfl
      have hJX : J (r.take k) (wr.alloc (.cells #[.int .i64 r[k].1, .int .i64 r[k].2.x0, .int .i64 r[k].2.y0, .int .i64 r[k].2.x1, .int .i64 r[k].2.y1] 46)) := hJ _ _ _ hJs
      have hYk := hY (r.take k) r[k] _ hJX (by rw [List.length_take]; omega)
      have hpre2 : Hid (decide (r[k].2.x0 ≤ e3) = true → ∀ j (h : j < r.length), j < k + 1 → decide (r[j].2.x0 ≤ e3) = true) := fun h2 j hj hjk => by
        rcases Nat.lt_or_eq_of_le (Nat.le_of_lt_succ hjk) with h | rfl
        · exact hpre.out j hj h
        · exact h2
      have hstop : Hid (decide (r[k].2.x0 ≤ e3) = false → r.takeWhile (fun f => decide (f.2.x0 ≤ e3)) = r.take k) := fun h2 => take_while_at hk hpre.out (fun _ => h2)
      clear hc hJX hpre hbb
      unfold ecE at hYk
      generalize r[k] = x at *
      obtain ⟨i, x0, y0, x1, y1⟩ := x
      dsimp only at d0 d1 d2 d3 d4 hYk hpre2 hstop
      have okEr := blk_older kEr
      have ckEr_0 : _ = some _ := blk_cell kEr 0
      have ckEr_1 : _ = some _ := blk_cell kEr 1
      have ckEr_2 : _ = some _ := blk_cell kEr 2
      have ckEr_3 : _ = some _ := blk_cell kEr 3
      have ckEr_4 : _ = some _ := blk_cell kEr 4
      have fkEr_0 := blk_free kEr 0
      have fkEr_1 := blk_free kEr 1
      have fkEr_2 := blk_free kEr 2
      have fkEr_3 := blk_free kEr 3
      have fkEr_4 := blk_free kEr 4
      have okAr := blk_older kAr
      have ckAr_0 : _ = some _ := blk_cell kAr 0
      have fkAr_0 := blk_free kAr 0
      by_cases hgt : x0 > e3
      · have hs2 := hstop.out (by simpa using hgt)
        have hJ9 : Hid (J (r.take k) wr) := hJs
        have hs9 : Hid (r.takeWhile (fun f => decide (f.2.x0 ≤ e3)) = r.take k) := hs2
        clear hs2 hstop hpre2 hYk hJs hst
        have hJ8 : Hid (J (r.take k) (wr.alloc (.cells #[.int .i64 i, .int .i64 x0, .int .i64 y0, .int .i64 x1, .int .i64 y1] 46))) := hJ _ _ _ hJ9.out
        gi_wp2
        refine ⟨fun _ _ => trivial, ?_⟩
        gi_wp2
        refine bodyPost_ret (results_none rfl _ _ _) rfl ?_
        exact ⟨⟨_, rfl⟩, .inl ⟨_, hs9.out.symm, hJ8.out⟩⟩
      · have hp9 := hpre2.out (by simpa using hgt)
        have hp8 : Hid (∀ j (h : j < r.length), j < k + 1 → decide (r[j].2.x0 ≤ e3) = true) := hp9
        clear hp9 hpre2 hstop
        obtain ⟨fn, tmps, assign, body, hy, hR⟩ := hYk
        gi_wp2
        refine hR.mono ?_
        have hKX : KpR R W (wr.alloc (.cells #[.int .i64 i, .int .i64 x0, .int .i64 y0, .int .i64 x1, .int .i64 y1] 46)) := hK.trans (KpR.below (fun k' hk' => Nat.lt_of_lt_of_le (hRl k' hk') hK.1) ((Below.refl _ wr).alloc (Nat.le_refl _) _))
        clear hR hy
        rintro e W3 (⟨rfl, hJ3, hk3⟩ | ⟨rfl, hJx3⟩)
        · rw [← hst.out] at hJ3
          have hJ9 : Hid (J (r.take (k + 1)) W3) := hJ3
          clear hJ3 hst
          gi_wp2
          go_roundw
          case rel => exact ⟨k + 1, by omega, by go_num, hJ9.out, hKX.trans hk3, hp8⟩
          case measure => (try go_num); simp [intOf]; (try omega)
        · rw [← hst.out] at hJx3
          have hJ9 : Hid (Jx (r.take (k + 1)) W3) := hJx3
          clear hJx3 hst
          gi_wp2
          refine bodyPost_ret (results_none rfl _ _ _) rfl ?_
          exact ⟨⟨_, rfl⟩, .inr ⟨_, trivial, hJ9.out⟩⟩
    · obtain rfl : k = r.length := by omega
      have hw : r.takeWhile (fun f => decide (f.2.x0 ≤ e3)) = r := by
        rw [take_while_at (k := r.length) (Nat.le_refl _) hpre.out (fun h => by omega), List.take_length]
      rw [List.take_length] at hJs
      have hJ9 : Hid (J r wr) := hJs
      clear hJs hpre
      gi_wp2
      go_end0
      exact ⟨⟨_, rfl⟩, .inl ⟨_, hw.symm, hJ9.out⟩⟩

end Go.Proofs.YtaahgblkmajceaaGreat

set_option linter.unusedVariables false
set_option linter.unusedSimpArgs false
namespace Go.Proofs.YtaahgblkmajceaaGreat
open Go.RowKit Fx Go.Maps Go.Shelf

attribute [local go_sem] Oper.semAt_some

def mark (D : Nat) : Deferred := { target := .collected D, args := #[] }
structure Shut (B : Nat) (w w' : World) : Prop where
  os : w'.os = w.os
  tape : w'.tape = w.tape
  output : w'.output = w.output
  size : w'.heap.size = w.heap.size
  same : ∀ (k : Nat) (o : Obj), w.heap[k]? = some o → (k < B ∨ o.isCells = true) → w'.heap[k]? = some o
theorem Shut.refl (B : Nat) (w : World) : Shut B w w := ⟨rfl, rfl, rfl, rfl, fun _ _ h _ => h⟩
theorem Shut.below {B : Nat} {w w' : World} (h : Shut B w w') (hB : B ≤ w.heap.size) : Below B w w' :=
  ⟨h.os, h.tape, h.output, by rw [h.size]; exact Nat.le_refl _, fun k hk => by
    rw [Array.getElem?_eq_getElem (show k < w.heap.size by omega)]
    exact h.same k _ (Array.getElem?_eq_getElem _) (.inl hk)⟩
theorem Shut.owns {B B' : Nat} {w w' : World} (h : Shut B w w') {e : TypeId} {k n : Nat} {v : Value} {xs : List Value} (ho : w.ownsRow B' e k v n xs) : w'.ownsRow B' e k v n xs := by
  obtain ⟨hl, h0 | ⟨g, cap, cur, h1, h2, h3, h4⟩⟩ := ho
  · exact ⟨hl, .inl h0⟩
  · exact ⟨hl, .inr ⟨g, cap, cur, h1, h2, h.same g _ h3 (.inr rfl), h4⟩⟩
theorem leaves_marks {P : Program} {fn : Func} {tmps : Array Value} {R : Ending → World → Prop} {v : Value} (B n : Nat) (hv : ∀ w, (results fn tmps).run P w = .ok v w) : ∀ (Ds : List Nat) (w : World), Ds.Nodup → (∀ D ∈ Ds, B ≤ D ∧ w.heap[D]? = some (.deferred (some []))) → (∀ w', Shut B w w' → R (.returned v) w') →
    LeavesInM Fence.wide n P fn tmps R (Ds.map mark) .returning w
  | [], w, _, _, hR => ⟨v, hv w, hR w (Shut.refl _ _)⟩
  | D :: Ds, w, hn, hD, hR => by
    obtain ⟨h1, h2⟩ := hD D (by simp)
    have hn' := List.nodup_cons.1 hn
    have hlt : D < w.heap.size := (Array.getElem?_eq_some_iff.1 h2).1
    have hother : ∀ k, k ≠ D → (w.putObj D (.deferred none)).heap[k]? = w.heap[k]? := fun k hk => World.putObj_heap_other hk
    refine ⟨by simp, .inl ⟨D, _, rfl, run_takeDeferred h2, ?_⟩⟩
    refine leaves_marks B n hv Ds _ hn'.2 (fun D' hD' => ?_) fun w' hw' => hR w' ?_
    · obtain ⟨a, b⟩ := hD D' (by simp [hD'])
      exact ⟨a, (hother D' (fun e => hn'.1 (e ▸ hD'))).trans b⟩
    · refine ⟨hw'.os, hw'.tape, hw'.output, hw'.size.trans (by simp), fun k o hk ho => hw'.same k o ((hother k ?_).trans hk) ho⟩
      rintro rfl
      rw [h2] at hk; cases hk
      rcases ho with ho | ho
      · omega
      · cases ho

theorem keepsOthers_below {w w' : World} (h : Below w.heap.size w w') : KeepsOthers w w' := ⟨h.size, fun k o hk _ => (h.block k (Array.getElem?_eq_some_iff.1 hk).1).trans hk⟩
theorem ownFrom_but {β : Type} {B : Nat} {S : Nat → Prop} {w0 : World} (hB : w0.heap.size ≤ B) : OwnFrom B (fun (_ : β) W => But S w0 W) := fun _ X Y row hs hg hr =>
  ⟨hg.os.trans hs.os, hg.tape.trans hs.tape, hg.output.trans hs.output, Nat.le_trans hs.size hg.size, fun k hk hn => (hg.block k (Nat.lt_of_lt_of_le hk hs.size) (fun e => by have := (hr k e.symm).1; omega)).trans (hs.block k hk hn)⟩
theorem blk_row {X Y : World} {row : Option Nat} {b : Nat} {c : Array Value} {t : TypeId} (h : blk X b c t) (hg : X.grownBy Y row) (hr : ∀ r, row = some r → ∃ o : Obj, X.heap[r]? = some o ∧ o.isCells = false) : blk Y b c t :=
  blk_grown20 hg h (fun e => by
    obtain ⟨o, ho, hc⟩ := hr b e
    rw [show X.heap[b]? = _ from h] at ho; cases ho; cases hc)
theorem owns_row21 {X Y : World} {row : Option Nat} {B k n : Nat} {e : TypeId} {v : Value} {xs : List Value} (h : X.ownsRow B e k v n xs) (hg : X.grownBy Y row) (hr : ∀ r, row = some r → ∃ o : Obj, X.heap[r]? = some o ∧ o.isCells = false) : Y.ownsRow B e k v n xs := by
  cases row with
  | none => exact owns_grown21 h hg (.inl rfl)
  | some r =>
    refine owns_grown21 h hg (.inr fun e' => ?_)
    obtain ⟨_, ⟨rfl, _⟩ | ⟨g, cap, cur, rfl, _, hgb, _⟩⟩ := h
    · simp [Value.ownBlock] at e'
    · obtain ⟨o, ho, hc⟩ := hr g (by simpa [Value.ownBlock] using e'.symm)
      rw [hgb] at ho; cases ho; cases hc
theorem but_below {n : Nat} {S : Nat → Prop} {a b c : World} (hna : n ≤ a.heap.size) (h : Below n a b) (k : But S b c) (hn : ∀ j, j < n → ¬ S j) : Below n a c :=
  ⟨k.os.trans h.os, k.tape.trans h.tape, k.output.trans h.output, Nat.le_trans h.size k.size, fun j hj => by
    by_cases hb : j < b.heap.size
    · exact (k.block j hb (hn j hj)).trans (h.block j hj)
    · have := h.size; omega⟩
theorem wpListIn_app21 {F : Fence} {n : Nat} {P : Program} {w : World} {ops : Array Oper} {rest : List Oper} {o : Oper} {a : Act} {Q : Exit → Act → World → Prop}
    (hg : o.guard = none) (s x : Operand) (t : TypeId) (hop : o.op = Op.call { callee := Callee.builtin Builtin.append, args := #[s, x], argTypes := #[t, t] })
    (B : Nat) (e : TypeId) (i : TypeInfo) (z : Value) (bytes : Nat) (ht : P.underlying t = some (.slice e)) (hi : P.info? e = some i) (hz : i.zero = some z) (hsize : i.size = 2) (hby : i.bytes = bytes) (hzs : z.cells.size = 2)
    (v : Value) (k : Nat) (xs : List Value) (hs : a.eval s = v) (hown : w.ownsRow B e 2 v k xs) (b : Nat) (y1 y2 : Value) (te : TypeId) (hx : a.eval x = .slice (some ⟨b, 0, none⟩) 1 1) (hy : blk w b #[y1, y2] te) (h1 : y1.oneCell' = true) (h2 : y2.oneCell' = true)
    (h63 : k + 1 ≤ maxLen) (hbytes : (k + 1) * bytes ≤ 140737488355328) (hB : B ≤ w.heap.size)
    (hK : ∀ v' w', w'.ownsRow B e 2 v' (k + 1) (xs ++ [y1, y2]) → w.grownBy w' v.ownBlock → (v'.ownBlock = v.ownBlock ∨ v'.ownBlock = some w.heap.size) → wpListIn F n P ops Q rest (a.put o.dst v') w') :
    wpListIn F n P ops Q (o :: rest) a w := by
  refine wpListIn_plain hg fun K hK' => ?_
  obtain ⟨v', w', hrun, r1, r2, r3, r4⟩ := run_append_own_at (P := P) w B t o.type e i z 2 bytes ht hi hz hsize hby hzs (by decide) v k xs hown ⟨b, 0, none⟩ 1 1 [y1, y2] rfl (fun j u hj => by
    match j, hj with
    | 0, hj => simp at hj; subst hj; simpa [Addr.add] using blk_cell hy 0
    | 1, hj => simp at hj; subst hj; simpa [Addr.add] using blk_cell hy 1) (fun u hu => by simp at hu; rcases hu with rfl | rfl <;> assumption) h63 hbytes hB
  unfold Oper.wpIn
  refine ⟨?_, ?_⟩
  · simp [Oper.about, hop, resolve, Target.leads, Sem.run_pure]
  · rw [Oper.semAt_plain F _ _ (by rw [hop]; intro c hc'; cases hc')]
    simp [execOp, hop, resolve, invoke, builtin, hs, hx, hrun, Result.andThen]
    exact hK' _ _ (hK v' w' r1 r2 r4)
theorem kp_of_but {R S : Nat → Prop} {a X Y : World} (hR : ∀ j, R j → j < a.heap.size ∧ ¬ S j) (hX : But S a X) (hY : But S a Y) (hs : X.heap.size ≤ Y.heap.size) : KpR R X Y :=
  ⟨hs, fun j hj => (hY.block j (hR j hj).1 (hR j hj).2).trans (hX.block j (hR j hj).1 (hR j hj).2).symm⟩
theorem but_grown21 {S : Nat → Prop} {a b c : World} {row : Option Nat} (h : But S a b) (hg : b.grownBy c row) (hr : ∀ g, row = some g → S g ∨ a.heap.size ≤ g) : But S a c :=
  ⟨hg.os.trans h.os, hg.tape.trans h.tape, hg.output.trans h.output, Nat.le_trans h.size hg.size, fun k hk hn => (hg.block k (Nat.lt_of_lt_of_le hk h.size) (fun e => by
    rcases hr k e.symm with h1 | h1
    · exact hn h1
    · omega)).trans (h.block k hk hn)⟩
theorem owns_cells {w : World} {B k n g : Nat} {e : TypeId} {v : Value} {xs : List Value} (h : w.ownsRow B e k v n xs) (hg : v.ownBlock = some g) {o : Obj} (ho : w.heap[g]? = some o) : o.isCells = true := by
  obtain ⟨_, ⟨rfl, _⟩ | ⟨g', cap, cur, rfl, _, hgb, _⟩⟩ := h
  · simp [Value.ownBlock] at hg
  · simp [Value.ownBlock] at hg
    subst hg
    rw [hgb] at ho; cases ho; rfl
theorem nodup_srt {l : List (Int × Int)} (h : l.Nodup) (hs : l.Pairwise fun a b => ¬ ltP b a) : SrtP l :=
  (hs.and (List.nodup_iff_pairwise_ne.1 h)).imp fun {a b} ⟨h1, h2⟩ => by
    rcases ltP_or a b with h | h | h
    · exact h
    · exact (h2 h).elim
    · exact (h1 h).elim
theorem srP_prA {S c : Bxs} (hd : Dst c) (hp : S.Perm c) : srP (prA S) = prP c := by
  have hS : Dst S := hd.perm hp.symm
  refine prP_eq hd (nodup_srt ((srP_perm (prA S)).symm.nodup (prA_nodup hS)) (srP_sorted _)) fun x => ?_
  rw [(srP_perm _).mem_iff, prA_mem hS]
  exact InP.congr (fun e => hp.mem_iff) x
theorem Ents.kept {w w' : World} {A : Option Addr} {r : List En} (h : Ents w A r) (hk : ∀ b off, A = some ⟨b, off, none⟩ → 0 < r.length → w'.heap[b]? = w.heap[b]?) : Ents w' A r := by
  rcases h with h | ⟨b, off, rfl, hc⟩
  · exact .inl h
  · refine .inr ⟨b, off, rfl, fun i hi => ?_⟩
    obtain ⟨cs, h1, h2, h3⟩ := hc i hi
    exact ⟨cs, h1, fun j hj => (cell_same (hk b off rfl (by omega)) _).trans (h2 j hj), h3⟩
theorem ents_drop {w : World} {b off : Nat} {l : List En} (h : Ents w (some ⟨b, off, none⟩) l) (k : Nat) : Ents w (some ⟨b, off + k * 5, none⟩) (l.drop k) := by
  rcases h with h | ⟨b', off', he, hc⟩
  · exact .inl (by rw [h]; simp)
  · simp only [Option.some.injEq, Addr.mk.injEq, and_true] at he
    obtain ⟨rfl, rfl⟩ := he
    refine .inr ⟨b, off + k * 5, rfl, fun i hi => ?_⟩
    rw [List.length_drop] at hi
    obtain ⟨cs, h1, h2, h3⟩ := hc (k + i) (by omega)
    refine ⟨cs, h1, fun j hj => ?_, by rw [List.getElem_drop]; exact h3⟩
    rw [show off + k * 5 + i * 5 + j = off + (k + i) * 5 + j by rw [Nat.add_mul]; omega]
    exact h2 j hj

set_option maxRecDepth 100000 in
set_option maxHeartbeats 8000000 in
theorem pairs21_b (A : Option Addr) (cap : Nat) (l : List En) (hl : l.length ≤ 1000) (hk64 : ∀ e ∈ l, i64k e.1) (w : World) (ha : Ents w A l) : Calls Tryz.prog 15 #[.slice A l.length cap] w fun e w' => (∃ v, e = .returned v ∧ w'.ownsRow w.heap.size 49 2 v (prP (cnt l)).length (pv (prP (cnt l)))) ∧ Below w.heap.size w w' := by
  have hk64' : Hid (∀ e ∈ l, i64k e.1) := hk64
  clear hk64
  obtain ⟨i0, hi, hz0, hz1, hz2⟩ := info_parts info_pair
  refine (callsIn_wide (n := 6)).1 ?_
  refine callsIn_of_wp_marks Tryz.func15 rfl trivial ?_ rfl
  refine wpIn_wide.2 ?_
  simp only [Tryz.ntmps15, List.size_toArray, List.length_cons, List.length_nil, Nat.reduceAdd, Nat.reduceSub, Array.replicate_succ, Array.replicate_zero, List.push_toArray, List.append_toArray, List.nil_append, List.cons_append]
  obtain ⟨S, hS⟩ : ∃ S, Hid (srE (cnt l) = S) := ⟨_, rfl⟩
  obtain ⟨RR, hRR⟩ : ∃ RR, Hid (prP (cnt l) = RR) := ⟨_, rfl⟩
  rw [hRR.out]
  go_wp2_with (go_at_call 36; refine Calls.mono (sort21_b A cap l (by omega) hk64'.out _ (ha.to bBel)) ?_; rintro e W ⟨⟨sv, rfl, hsv⟩, hbW⟩; rw [hS.out] at hsv; have hlen := fun ty W' => row_len u_se hsv ty W')
  have kP0 : blk W w.heap.size #[.slice none 0 0] 47 := blk_below hbW (blk_new _ _ _)
  have hbW2 : Below w.heap.size w W := Below.trans ((Below.refl _ w).alloc (Nat.le_refl _) _) (Below.mono hbW (by simp))
  have hszW : w.heap.size + 1 ≤ W.heap.size := by have := hbW.size; simpa using this
  have hSl : S.length ≤ 1000 := by have h1 := hS.out; have h2 := srE_len (cnt_dst l); have h3 := cnt_len l; rw [← h1, h2]; omega
  have hgA : Hid (∀ g, sv.ownBlock = some g → w.heap.size < g ∧ g < W.heap.size) := fun g e => by
    have := World.ownsRow.lt hsv _ e
    simp at this
    omega
  have hSrt : Hid (S.Pairwise ltE ∧ srP (prA S) = RR) := ⟨by rw [← hS.out]; exact srE_srt (cnt_dst l), by rw [← hRR.out]; exact srP_prA (cnt_dst l) (by rw [← hS.out]; exact srE_perm (cnt_dst l))⟩
  obtain ⟨j0, hj, hy0, hy1, hy2⟩ := info_parts info_ent
  clear hbW hS hRR
  refine wp_loop (fun a' w' => ∃ (k : Nat) (Ds : List Nat) (v u5 u6 u13 u14 u15 u16 u17 u18 u19 u20 u21 u22 u43 : Value),
    a' = { tmps := #[.slice A l.length cap, undef, .slice none 0 0, .pointer (some ⟨w.heap.size, 0, none⟩), sv, u5, u6, undef, .slice A l.length cap, sv, sv, .int .i64 S.length, .int .i64 (k : Int), u13, u14, u15, u16, u17, u18, u19, u20, u21, u22, undef, undef, undef, undef, undef, undef, undef, undef, undef, undef, undef, undef, undef, undef, undef, undef, undef, undef, undef, undef, u43, undef, undef, undef], defers := Ds.map mark } ∧
    k ≤ S.length ∧ blk w' w.heap.size #[v] 47 ∧ w'.ownsRow W.heap.size 49 2 v (enu S k).length (pv (enu S k)) ∧ But (fun b => b = w.heap.size) W w' ∧ Ds.Nodup ∧ Hid (∀ D ∈ Ds, W.heap.size ≤ D ∧ w'.heap[D]? = some (.deferred (some []))))
    (fun a' _ => S.length - (intOf (a'.tmps.getD 12 undef)).toNat) ?atStart ?round
  case atStart => exact ⟨0, [], _, _, _, _, _, _, _, _, _, _, _, _, _, _, rfl, by omega, kP0, by rw [enu_zero]; exact World.ownsRow_nil _ _ _ _, But.refl _ _, List.Pairwise.nil, fun D h => by cases h⟩
  case round =>
    rintro a' wr ⟨k, Ds, v, u5, u6, u13, u14, u15, u16, u17, u18, u19, u20, u21, u22, u43, rfl, hk, kP, hown, hbut, hnd, hD⟩
    dsimp only
    have hszR := hbut.size
    have okP := blk_older kP
    have ckP_0 : _ = some _ := blk_cell kP 0
    have fkP_0 := blk_free kP 0
    by_cases hlt : k < S.length
    · have i0' : (0 : Int) ≤ (k : Int) := by omega
      have i1' : (k : Int) < (S.length : Int) := by omega
      have i2' : (k : Int) + 1 ≤ (S.length : Int) := by omega
      have i3' : (0 : Int) ≤ (k : Int) + 1 := by omega
      have i6' : IntKind.i64.wrap ((k : Int) + 1) = (k : Int) + 1 := by rw [IntKind.wrap_i64]; omega
      obtain ⟨b, hsb, hix, hc⟩ := ents_ix u_se sz_se hsv hlt
      obtain ⟨ob0, d0, d1, d2, d3, d4⟩ := hc W (Below.refl _ _)
      have hgb := hgA.out b hsb
      have hbb := hbut.block b hgb.2 (by omega)
      rw [← cell_same hbb] at d0 d1 d2 d3 d4
      have obr : older b wr = true := by simp [older]; omega
      obtain ⟨A2, c2, hslc, hE2, hA2⟩ := ents_lo u_se hj hy1 hsv (k + 1) (by omega) ((k : Int) + 1) (by omega)
      have hE2' : Hid (Ents W A2 (S.drop (k + 1))) := hE2
      have hA2' : Hid (∀ b' off', A2 = some ⟨b', off', none⟩ → 0 < (S.drop (k + 1)).length → b' = b) := fun b' off' e h => by
        rw [List.length_drop] at h
        have := hA2 b' off' e (by omega)
        rw [hsb] at this; exact (Option.some.inj this).symm
      clear hE2 hA2
      have hst : Hid (enu S (k + 1) = enu S k ++ fl S[k] (S.drop (k + 1))) := enu_succ hlt
      have hnb : Hid (fl S[k] ((S.drop (k + 1)).takeWhile (fun f => decide (f.2.x0 ≤ S[k].2.x1))) = fl S[k] (S.drop (k + 1))) := nbr_fl (hSrt.out.1.sublist (List.drop_sublist _ _))
      clear hc ob0
      generalize S[k] = e at *
      obtain ⟨ei, e0, e1, e2, e3⟩ := e
      dsimp only at d0 d1 d2 d3 d4 hnb
      go_upto_region 6 with fail
      refine wp_named ?_
      intro X hX
      have kE : blk X wr.heap.size #[.int .i64 ei, .int .i64 e0, .int .i64 e1, .int .i64 e2, .int .i64 e3] 46 := by rw [hX]; exact bBkn
      have hbX : Below wr.heap.size wr X := by rw [hX]; exact bBel
      have hzX : X.heap.size = wr.heap.size + 1 := by rw [hX]; simp
      clear hX
      have okE := blk_older kE
      have ckE_0 : _ = some _ := blk_cell kE 0
      have ckE_1 : _ = some _ := blk_cell kE 1
      have ckE_2 : _ = some _ := blk_cell kE 2
      have ckE_3 : _ = some _ := blk_cell kE 3
      have ckE_4 : _ = some _ := blk_cell kE 4
      have fkE_0 := blk_free kE 0
      have fkE_1 := blk_free kE 1
      have fkE_2 := blk_free kE 2
      have fkE_3 := blk_free kE 3
      have fkE_4 := blk_free kE 4
      refine wp_region_tail (C := fun w' => ∃ n : Nat, w' = X.drewN n) 5 (by kernel_rfl) (by kernel_rfl) ⟨1, rfl⟩ ?_
      simp only [List.take_succ_cons, List.take_zero, List.drop_succ_cons, List.drop_zero]
      repeat (go_big_quiet_step (fail))
      refine wpQuiet_nil ?_
      intro w1 hw1
      obtain ⟨nq, rfl⟩ := hw1
      have hbN : Below wr.heap.size wr (X.drewN nq) := by rw [drewN_gw]; exact bgw hbX hbX.size _
      have hzN : (X.drewN nq).heap.size = wr.heap.size + 1 := by show X.heap.size = _; exact hzX
      have kEN : blk (X.drewN nq) wr.heap.size #[.int .i64 ei, .int .i64 e0, .int .i64 e1, .int .i64 e2, .int .i64 e3] 46 := by rw [drewN_gw]; exact blk_gw kE
      clear okE kE ckE_0 ckE_1 ckE_2 ckE_3 ckE_4 fkE_0 fkE_1 fkE_2 fkE_3 fkE_4
      generalize X.drewN nq = V at *
      go_wp2_with (go_at_call 37; refine Calls.mono (nbr_b ei e0 e1 e2 e3 _ _ _ _) ?_; rintro e V2 ⟨rfl, kE2, kA2, hb2⟩)
      rw [hzN] at kE2 kA2
      have hszV := hb2.size
      rw [hzN] at hszV
      have hbV2 : Below wr.heap.size wr V2 := Below.trans hbN (hb2.mono (by omega))
      have kPV := blk_below hbV2 kP
      have hownV := owns_below hown hbV2
      have kEV := blk_below hb2 kEN
      have hneP : v.ownBlock ≠ some w.heap.size := fun e => by have := (World.ownsRow.lt hown _ e).1; omega
      have hEV : Hid (Ents V2 A2 (S.drop (k + 1))) := Ents.kept hE2'.out fun b' off' e h => by
        obtain rfl := hA2'.out b' off' e h
        exact (hbV2.block _ (by omega)).trans hbb
      have hvlt : Hid (∀ g, v.ownBlock = some g → g < wr.heap.size) := fun g e => (World.ownsRow.lt hown g e).2
      have hDV : Hid (∀ D ∈ Ds, W.heap.size ≤ D ∧ V2.heap[D]? = some (.deferred (some []))) := fun D hD' => by
        obtain ⟨q1, q2⟩ := hD.out D hD'
        exact ⟨q1, (hbV2.block D (Array.getElem?_eq_some_iff.1 q2).1).trans q2⟩
      have hvD : Hid (∀ D ∈ Ds, v.ownBlock ≠ some D) := fun D hD' e => by
        have := owns_cells hownV e (hDV.out D hD').2; cases this
      have hvlow : Hid (∀ g, v.ownBlock = some g → W.heap.size ≤ g) := fun g e => (World.ownsRow.lt hown g e).1
      have hvb : Hid (v.ownBlock ≠ some b) := fun e => by have := (World.ownsRow.lt hown _ e).1; omega
      have hbutV : Hid (But (fun j => j = w.heap.size) W V2) := hbut.below hbV2
      have hlr : (S.drop (k + 1)).length = S.length - (k + 1) := List.length_drop
      rw [← hlr] at kA2
      clear okP ckP_0 fkP_0 hown kP hbb hlen hix d0 d1 d2 d3 d4 obr hslc hbN hzN hb2 kEN hbut hD hbX hzX
      obtain ⟨r, hr⟩ : ∃ r, Hid (S.drop (k + 1) = r) := ⟨_, rfl⟩
      rw [hr.out] at hst hnb hEV hA2' kA2 hlr hE2'
      have hr1000 : r.length ≤ 1000 := by omega
      obtain ⟨R, hR⟩ : ∃ R : Nat → Prop, R = fun j => j = wr.heap.size + 1 + 1 ∨ j = wr.heap.size + 1 ∨ j = b := ⟨_, rfl⟩
      have hRl : ∀ j, R j → j < V2.heap.size := fun j hj => by rw [hR] at hj; have := blk_lt kA2; rcases hj with rfl | rfl | rfl <;> omega
      have hseq : SeqStopsK Fence.wide 5 Tryz.prog 54 #[.pointer (some ⟨wr.heap.size + 1 + 1, 0, none⟩), .pointer (some ⟨wr.heap.size + 1, 0, none⟩)] ecE (KpR R) (fun ys => ys = r.takeWhile (fun f => decide (f.2.x0 ≤ e2))) (fun _ => True) r.length V2 := fun lr J Jx W' hW' hJ hJx hY h0 =>
        nbrs_in 5 (by omega) lr (wr.heap.size + 1 + 1) (wr.heap.size + 1) ei e0 e1 e2 e3 A2 c2 r (by omega) R (by rw [hR]; exact .inl rfl) (by rw [hR]; exact .inr (.inl rfl)) (fun b' off' e h => by rw [hR]; exact .inr (.inr (hA2'.out b' off' e h))) J Jx W'
          (fun j hj => Nat.lt_of_lt_of_le (hRl j hj) hW'.size) (blk_below hW' kE2) (blk_below hW' kA2) (hEV.out.to hW')
          (fun s X o hs => hJ s X _ none hs (World.grownBy_alloc X o none) (fun r e => by cases e)) hY h0
      have hneR : ∀ j, R j → j ≠ w.heap.size ∧ v.ownBlock ≠ some j := fun j hj => by
        rw [hR] at hj
        refine ⟨by rcases hj with rfl | rfl | rfl <;> omega, fun e => ?_⟩
        have := hvlt.out j e
        rcases hj with rfl | rfl | rfl
        · omega
        · omega
        · exact hvb.out e
      refine (wpIn_wide (n := 6)).1 ?_
      refine wpIn_rangeFunc_ownH rfl (by omega) (gf := 54) (lb := #[.pointer (some ⟨wr.heap.size + 1 + 1, 0, none⟩), .pointer (some ⟨wr.heap.size + 1, 0, none⟩)]) rfl trivial (enters_of Tryz.func54 (by kernel_rfl) rfl) hseq (fun h k => KpR.trans h k) (KpR.book hRl) (Below.refl _ _) (fun _ => rfl)
        (fun pre W' => ∃ v', blk W' w.heap.size #[v'] 47 ∧ W'.ownsRow W.heap.size 49 2 v' (enu S k ++ fl (ei, ⟨e0, e1, e2, e3⟩) pre).length (pv (enu S k ++ fl (ei, ⟨e0, e1, e2, e3⟩) pre)) ∧ But (fun j => j = w.heap.size ∨ v.ownBlock = some j) V2 W' ∧ (v'.ownBlock = v.ownBlock ∨ ∃ g, v'.ownBlock = some g ∧ V2.heap.size ≤ g) ∧ pre.length ≤ r.length)
        (fun _ _ _ => False) ?hI (fun _ _ _ _ _ hs _ _ => hs) ?h0
        (fun x a' W' => ∃ Bx, V2.heap.size ≤ Bx ∧ blk W' Bx #[.int .i64 x.1, .int .i64 x.2.x0, .int .i64 x.2.y0, .int .i64 x.2.x1, .int .i64 x.2.y1] 46 ∧
          a' = { tmps := #[.slice A l.length cap, undef, .slice none 0 0, .pointer (some ⟨w.heap.size, 0, none⟩), sv, .int .i64 k, .pointer (some ⟨wr.heap.size, 0, none⟩), .pointer (some ⟨Bx, 0, none⟩), .slice A l.length cap, sv, sv, .int .i64 S.length, .int .i64 k, .bool true, .int .i64 k, .pointer (some ⟨b, k * 5, none⟩), .agg #[.int .i64 ei, .int .i64 e0, .int .i64 e1, .int .i64 e2, .int .i64 e3], .agg #[.int .i64 ei, .int .i64 e0, .int .i64 e1, .int .i64 e2, .int .i64 e3], sv, .int .i64 k, .int .i64 ((k : Int) + 1), .slice A2 (S.length - (k + 1)) c2, .func (.func 54) #[] #[.pointer (some ⟨wr.heap.size + 1 + 1, 0, none⟩), .pointer (some ⟨wr.heap.size + 1, 0, none⟩)], .agg #[.int .i64 x.1, .int .i64 x.2.x0, .int .i64 x.2.y0, .int .i64 x.2.x1, .int .i64 x.2.y1], undef, undef, undef, undef, undef, undef, undef, undef, undef, undef, undef, undef, undef, undef, undef, undef, undef, undef, undef, u43, undef, undef, undef], defers := [] }) ?hAx ?assign ?body ?done ?stop
      case hI =>
        rintro s' X' Y' row ⟨v', q1, q2, q3, q4⟩ hg hr'
        exact ⟨v', blk_row q1 hg (fun r' e => (hr' r' e).2), owns_row21 q2 hg (fun r' e => (hr' r' e).2), ownFrom_but (β := Unit) (Nat.le_refl _) () X' Y' row q3 hg hr', q4⟩
      case h0 => exact ⟨v, kPV, by simpa [fl] using hownV, But.refl _ _, .inl rfl, by simp⟩
      case hAx =>
        rintro x a' _ X' Y' row ⟨Bx, q1, q2, q3⟩ hg hr'
        exact ⟨Bx, q1, blk_row q2 hg (fun r' e => (hr' r' e).2), q3⟩
      case assign =>
        rintro lr pre ⟨xi, x0, x1, x2, x3⟩ W' K hI hK
        dsimp only [ecE]
        gi_wp2
        obtain ⟨v', q1, q2, q3, q4, q5⟩ := hI
        have hbA := (Below.refl _ W').alloc (Nat.le_refl _) (.cells #[.int .i64 xi, .int .i64 x0, .int .i64 x1, .int .i64 x2, .int .i64 x3] 46)
        exact hK _ _ ((KeepsOthers.alloc _ _).from _) (KpR.below (fun j hj => Nat.lt_of_lt_of_le (hRl j hj) q3.size) hbA) ⟨v', blk_alloc q1, owns_below q2 hbA, q3.alloc _, q4, q5⟩ ⟨W'.heap.size, q3.size, blk_new _ _ _, rfl⟩
      case body =>
        rintro lr pre ⟨xi, x0, x1, x2, x3⟩ a' W' hlr2 ⟨rec, hrec⟩ ⟨v', q1, q2, q3, q4, q5⟩ ⟨Bx, hBx, bX, rfl⟩ hlt2
        dsimp only at bX ⊢
        have kEw : blk W' wr.heap.size #[.int .i64 ei, .int .i64 e0, .int .i64 e1, .int .i64 e2, .int .i64 e3] 46 := q3.blk kEV (by
          rintro (h | h)
          · omega
          · have := hvlt.out _ h; omega)
        have hfl : Hid (fl (ei, ⟨e0, e1, e2, e3⟩) (pre ++ [(xi, ⟨x0, x1, x2, x3⟩)]) = fl (ei, ⟨e0, e1, e2, e3⟩) pre ++ if ovl8 e0 e1 e2 e3 x0 x1 x2 x3 then [(min ei xi, max ei xi)] else []) := fl_snoc _ _ _
        have hR2 : ∀ j, R j → j < V2.heap.size ∧ ¬ (j = w.heap.size ∨ v.ownBlock = some j) := fun j hj => ⟨hRl j hj, fun h => h.elim (hneR j hj).1 (hneR j hj).2⟩
        have hszW' := q3.size
        have oq1 := blk_older q1
        have cq1_0 : _ = some _ := blk_cell q1 0
        have fq1_0 := blk_free q1 0
        have okEw := blk_older kEw
        have ckEw_0 : _ = some _ := blk_cell kEw 0
        have ckEw_1 : _ = some _ := blk_cell kEw 1
        have ckEw_2 : _ = some _ := blk_cell kEw 2
        have ckEw_3 : _ = some _ := blk_cell kEw 3
        have ckEw_4 : _ = some _ := blk_cell kEw 4
        have fkEw_0 := blk_free kEw 0
        have fkEw_1 := blk_free kEw 1
        have fkEw_2 := blk_free kEw 2
        have fkEw_3 := blk_free kEw 3
        have fkEw_4 := blk_free kEw 4
        have obX := blk_older bX
        have cbX_0 : _ = some _ := blk_cell bX 0
        have cbX_1 : _ = some _ := blk_cell bX 1
        have cbX_2 : _ = some _ := blk_cell bX 2
        have cbX_3 : _ = some _ := blk_cell bX 3
        have cbX_4 : _ = some _ := blk_cell bX 4
        have fbX_0 := blk_free bX 0
        have fbX_1 := blk_free bX 1
        have fbX_2 := blk_free bX 2
        have fbX_3 := blk_free bX 3
        have fbX_4 := blk_free bX 4
        cases ho : ovl8 e0 e1 e2 e3 x0 x1 x2 x3 with
        | false =>
          rw [ho] at hfl
          gi_wp2_with (refine ⟨trivial, ?_⟩; gi_at_call 38; refine (CallsIn.inRound lr (callsIn_wide.2 (gw_at (boolIs (xovl_b e0 e1 e2 e3 x0 x1 x2 x3 _) ho)))).mono ?_; rintro e w1 ⟨rfl, q, rfl⟩)
          unfold ownPostG
          dsimp only
          refine ⟨(keepsOthers_below (below_gw W' q)).from _, KpR.below (fun j hj => Nat.lt_of_lt_of_le (hRl j hj) q3.size) (below_gw W' q), v', blk_gw q1, ?_, q3.gw q, q4, by simp; omega⟩
          rw [hfl.out]
          simpa using owns_below q2 (below_gw W' q)
        | true =>
          rw [ho] at hfl
          have hvP' : v'.ownBlock ≠ some w.heap.size := fun e => by
            have := (World.ownsRow.lt q2 _ e).1; omega
          have hel := enu_len S k
          have hel2 := fl_len (ei, ⟨e0, e1, e2, e3⟩) pre
          have hkk : k * S.length ≤ 1000 * 1000 := Nat.mul_le_mul (by omega) hSl
          have hln : (enu S k ++ fl (ei, ⟨e0, e1, e2, e3⟩) pre).length ≤ 2000000 := by rw [List.length_append]; omega
          obtain ⟨LL, hLL⟩ : ∃ LL, Hid (enu S k ++ fl (ei, ⟨e0, e1, e2, e3⟩) pre = LL) := ⟨_, rfl⟩
          rw [hLL.out] at q2 hln
          obtain ⟨nL, hnL⟩ : ∃ nL, Hid (LL.length = nL) := ⟨_, rfl⟩
          rw [hnL.out] at q2 hln
          gi_wp2_with (first | (refine ⟨trivial, ?_⟩; gi_at_call 38; refine (CallsIn.inRound lr (callsIn_wide.2 (gw_at (boolIs (xovl_b e0 e1 e2 e3 x0 x1 x2 x3 _) ho)))).mono ?_; rintro e w1 ⟨rfl, q, rfl⟩) | (gi_at_builtin; refine wpListIn_app21 rfl _ _ 47 rfl W.heap.size 49 i0 (.agg #[.int .i64 0, .int .i64 0]) 16 (by kernel_rfl) hi hz0 hz1 hz2 rfl _ _ _ rfl (owns_below q2 bBel) _ (.int .i64 (min ei xi)) (.int .i64 (max ei xi)) 49 rfl bBkn rfl rfl (by unfold maxLen; omega) (by omega) (by first | (simp; omega) | omega) ?_; intro v2 w2 hown2 hg2 ho2; obtain ⟨g2, cap2, rfl⟩ := ownsRow_succ hown2; have kP2 := blk_grown20 hg2 (blk_alloc (blk_gw q1)) hvP'; have ck2 := blk_cell kP2 0; have fk2 := blk_free kP2 0; have ok2 := blk_older kP2))
          have hg3 : ((gw W' q).alloc (.cells #[.int .i64 (min ei xi), .int .i64 (max ei xi)] 49)).grownBy w2 v'.ownBlock := hg2
          have ho3 : some g2 = v'.ownBlock ∨ some g2 = some ((gw W' q).alloc (.cells #[.int .i64 (min ei xi), .int .i64 (max ei xi)] 49)).heap.size := ho2
          clear hg2 ho2
          have hbX3 : Below W'.heap.size W' ((gw W' q).alloc (.cells #[.int .i64 (min ei xi), .int .i64 (max ei xi)] 49)) := (below_gw W' q).alloc (below_gw W' q).size _
          have hq2X := owns_below q2 hbX3
          have hszX3 := hbX3.size
          have hbut2 : But (fun j => j = w.heap.size ∨ v.ownBlock = some j) V2 ((gw W' q).alloc (.cells #[.int .i64 (min ei xi), .int .i64 (max ei xi)] 49)) := q3.below hbX3
          generalize (gw W' q).alloc (.cells #[.int .i64 (min ei xi), .int .i64 (max ei xi)] 49) = X3 at *
          have hg2n : g2 ≠ w.heap.size := fun e => by
            subst e
            rcases ho3 with h | h
            · exact hvP' h.symm
            · have := Option.some.inj h; omega
          have hbut3 : But (fun j => j = w.heap.size ∨ v.ownBlock = some j) V2 w2 := but_grown21 hbut2 hg3 fun g e => by
            rcases q4 with h | ⟨g', h, hle⟩
            · exact .inl (.inr (h ▸ e))
            · rw [h] at e; cases e; exact .inr hle
          have hbut4 := hbut3.set (b := w.heap.size) (i := 0) (.inl rfl) (.slice (some ⟨g2, 0, none⟩) (nL + 1) cap2)
          have hKF : KeepsFrom V2.heap.size W' (w2.setCell ⟨w.heap.size, 0, none⟩ (.slice (some ⟨g2, 0, none⟩) (nL + 1) cap2)) :=
            (((keepsOthers_below hbX3).trans (KeepsOthers.of_grownBy hg3 fun j o e hj => owns_cells hq2X e hj)).trans (KeepsOthers.setCell _ _ _)).from _
          unfold ownPostG
          dsimp only
          refine ⟨hKF, kp_of_but hR2 q3 hbut4 hKF.size, .slice (some ⟨g2, 0, none⟩) (nL + 1) cap2, blk_set kP2, ?_, hbut4, ?_, by simp; omega⟩
          · have h8 := owns_grown21 hown2 (grownBy_setCell' w2 w.heap.size (.slice (some ⟨g2, 0, none⟩) (nL + 1) cap2)) (.inr (by simp [Value.ownBlock, hg2n]))
            rw [hfl.out, if_pos trivial, ← List.append_assoc, hLL.out, pv_append20, List.length_append, hnL.out]
            exact h8
          · rcases ho3 with h | h
            · rcases q4 with h1 | ⟨g', h1, hle⟩
              · exact .inl (by rw [← h1, ← h]; rfl)
              · exact .inr ⟨g', by rw [← h1, ← h]; rfl, hle⟩
            · exact .inr ⟨_, h, by omega⟩
      case done =>
        rintro D xs W' hDle rfl ⟨v', q1, q2, q3, q4, -⟩ hDk
        rw [hnb.out, ← hst.out] at q2
        have hq2 := own_hid q2
        have hD9 : Hid (∀ D' ∈ D :: Ds, W.heap.size ≤ D' ∧ W'.heap[D']? = some (.deferred (some []))) := fun D' hD' => by
          rcases List.mem_cons.1 hD' with h | h
          · rw [h]; exact ⟨by omega, hDk⟩
          · obtain ⟨a1, a2⟩ := hDV.out D' h
            refine ⟨a1, (q3.block D' (Array.getElem?_eq_some_iff.1 a2).1 ?_).trans a2⟩
            rintro (h1 | h1)
            · omega
            · exact hvD.out D' h h1
        have hn9 : Hid ((D :: Ds).Nodup) := List.nodup_cons.2 ⟨fun h => by
          have := (Array.getElem?_eq_some_iff.1 (hDV.out D h).2).1
          omega, hnd⟩
        have hb9 : Hid (But (fun j => j = w.heap.size) W W') := hbutV.out.trans q3 (fun i hi h => by
          rcases h with h | h
          · exact h
          · have := hvlow.out _ h; omega)
        have q19 : Hid (blk W' w.heap.size #[v'] 47) := q1
        clear q1 q2 q3 q4 hDk hst hnb
        go_wp2_with fail
        exact ⟨⟨k + 1, D :: Ds, v', _, _, _, _, _, _, _, _, _, _, _, _, _, rfl, by omega, q19.out, hq2.out, hb9.out, hn9.out, hD9.out⟩, by simp [intOf]; omega⟩
      case stop =>
        rintro D c pre W' _ _ h _
        exact h.elim
    · obtain rfl : k = S.length := by omega
      rw [enu_all] at hown
      have hlA : (prA S).length ≤ 1000000 := by rw [← enu_all]; have := enu_len S S.length; have h2 : S.length * S.length ≤ 1000 * 1000 := Nat.mul_le_mul hSl hSl; omega
      have hownS := own_hid hown
      have hvD : Hid (∀ D ∈ Ds, v.ownBlock ≠ some D) := fun D hD' e => by
        obtain ⟨_, ⟨rfl, _⟩ | ⟨g, cap2, cur, rfl, _, hgb, _⟩⟩ := hown
        · simp [Value.ownBlock] at e
        · simp [Value.ownBlock] at e
          subst e
          rw [(hD.out g hD').2] at hgb; cases hgb
      have hvP : v.ownBlock ≠ some w.heap.size := fun e => by
        have := (World.ownsRow.lt hown _ e).1; omega
      clear hown
      go_wp2_with (go_at_call 39; refine Calls.mono (sortP_b W.heap.size v (prA S) _ hlA hownS.out) ?_; rintro e w1 ⟨rfl, hown1, hb1, hg1⟩; have kP1 := blk_grown20 hg1 kP hvP; clear okP ckP_0 fkP_0; have ck1 := blk_cell kP1 0; have fk1 := blk_free kP1 0; have ok1 := blk_older kP1)
      refine leaves_marks w.heap.size 6 (v := v) (fun _ => by simp [results, Tryz.results15, go_sem]) Ds w1 hnd ?_ ?_
      · intro D hD'
        obtain ⟨q1, q2⟩ := hD.out D hD'
        exact ⟨by omega, (hg1.block D (Array.getElem?_eq_some_iff.1 q2).1 (fun e => hvD.out D hD' e.symm)).trans q2⟩
      · intro w' hw'
        have hsz1 := hg1.size
        refine ⟨⟨v, rfl, ?_⟩, ?_⟩
        · have h9 := owns_base (hw'.owns hown1) (show w.heap.size ≤ W.heap.size by omega)
          rw [hSrt.out.2] at h9
          have h8 : (prA S).length = RR.length := by rw [← hSrt.out.2, srP_len]
          rw [h8] at h9
          exact h9
        · exact Below.trans (but_below (Nat.le_refl _) hbW2 hbut (fun j hj hj' => by omega)) (Below.trans (hb1.mono (by omega)) (hw'.below (by omega)))

end Go.Proofs.YtaahgblkmajceaaGreat
