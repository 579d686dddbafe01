/- Chapter 20: rows as values that are not written out; EqualInts, EqualPairs, MaxHeight. -/
import Derived.Test.YtfhhkabdeajieaaBvX
import Derived.Deep.DeepCutAuto
set_option linter.unusedVariables false
set_option linter.unusedSimpArgs false
namespace Go.Proofs.Ytfhhkabdeajieaa
open Go.RowKit Fx

section
variable {P : Program} {SL E : TypeId} {sz B n : Nat} {v : Value} {xs : List Value} {w : World}
theorem row_len (hu : P.underlying SL = some (.slice E)) (h : w.ownsRow B E sz v n xs) (ty : TypeId) (W : World) : (Builtin.len_ #[SL] ty #[v]).run P W = .ok (.int .i64 (n : Int)) W := by
  obtain ⟨_, ⟨rfl, rfl⟩ | ⟨g, cap, cur, rfl, hB, hh, hn, hm, hc, ht⟩⟩ := h <;> simp [Builtin.len_, run_underlying hu] <;> rfl
theorem row_ix (hu : P.underlying SL = some (.slice E)) (hs : ∀ W, (Go.sizeOf E).run P W = .ok sz W) (h : w.ownsRow B E sz v n xs) {i : Nat} (hi : i < n) (hl : xs.length = n * sz) :
    ∃ g, g < w.heap.size ∧ v.ownBlock = some g ∧ (∀ W, (Instr.indexAt SL v (.int .i64 (i : Int))).run P W = .ok (.pointer (some ⟨g, i * sz, none⟩)) W) ∧ ∀ j, j < sz → w.cell? ⟨g, i * sz + j, none⟩ = xs[i * sz + j]? := by
  obtain ⟨_, ⟨rfl, rfl⟩ | ⟨g, cap, cur, rfl, hB, hh, hn, hm, hc, ht⟩⟩ := h
  · omega
  · refine ⟨g, (Array.getElem?_eq_some_iff.1 hh).1, rfl, fun W => ?_, fun j hj => ?_⟩
    · have e : Addr.add ⟨g, 0, none⟩ (i * sz) = ⟨g, i * sz, none⟩ := by
        unfold Addr.add; split
        · rename_i h0; rw [h0]
        · simp
      simp [Instr.indexAt, run_underlying hu, asIntOf, hs, hi, e, go_sem]
    · have hb : blk w g cur E := hh
      have hlt : i * sz + j < n * sz := by
        have : (i + 1) * sz ≤ n * sz := Nat.mul_le_mul_right _ hi
        rw [Nat.add_mul] at this; omega
      rw [blk_cell hb, ← ht, List.getElem?_take, if_pos hlt]
      simp
theorem owns_but {w' : World} {S : Nat → Prop} (h : w.ownsRow B E sz v n xs) (hb : But S w w') (hs : ∀ k, v.ownBlock = some k → ¬ S k) : w'.ownsRow B E sz v n xs := by
  obtain ⟨h1, h2 | ⟨g, cap, cur, rfl, hB, hh, r⟩⟩ := h
  · exact ⟨h1, .inl h2⟩
  · exact ⟨h1, .inr ⟨g, cap, cur, rfl, hB, (hb.block g (Array.getElem?_eq_some_iff.1 hh).1 (hs g rfl)).trans hh, r⟩⟩
end

theorem iv_at (xs : List Int) (k : Nat) (h : k < xs.length) : (iv xs)[k]? = some (.int .i64 xs[k]) := by simp [iv, h]
theorem pv_at : ∀ (ps : List (Int × Int)) (k : Nat) (h : k < ps.length), (pv ps)[k * 2]? = some (.int .i64 ps[k].1) ∧ (pv ps)[k * 2 + 1]? = some (.int .i64 ps[k].2)
  | p :: ps, 0, _ => ⟨rfl, rfl⟩
  | p :: ps, k + 1, h => by
    have := pv_at ps k (by simpa using h)
    rw [show (k + 1) * 2 = k * 2 + 2 by omega, show k * 2 + 2 + 1 = (k * 2 + 1) + 2 by omega]
    simpa [pv] using this
theorem pv_len20 : ∀ ps : List (Int × Int), (pv ps).length = ps.length * 2
  | [] => rfl
  | p :: ps => by simp [pv, pv_len20 ps]; omega

theorem sz_int (W : World) : (Go.sizeOf 3).run Try.prog W = .ok 1 W := by kernel_rfl

theorem sz_pair (W : World) : (Go.sizeOf 44).run Try.prog W = .ok 2 W := by kernel_rfl

theorem u_ints : Try.prog.underlying 63 = some (.slice 3) := by kernel_rfl

theorem u_pairs : Try.prog.underlying 40 = some (.slice 44) := by kernel_rfl

theorem ints_ix {w : World} {B : Nat} {v : Value} {xs : List Int} (h : w.ownsRow B 3 1 v xs.length (iv xs)) {k : Nat} (hk : k < xs.length) : ∃ g, v.ownBlock = some g ∧ (∀ W, (Instr.indexAt 63 v (.int .i64 (k : Int))).run Try.prog W = .ok (.pointer (some ⟨g, k, none⟩)) W) ∧ ∀ w', Below w.heap.size w w' → older g w' = true ∧ w'.cell? ⟨g, k, none⟩ = some (.int .i64 xs[k]) := by
  obtain ⟨g, h1, h2, h3, h4⟩ := row_ix u_ints sz_int h hk (by simp)
  simp only [Nat.mul_one] at h3 h4
  refine ⟨g, h2, h3, fun w' hb => ?_⟩
  have := h4 0 (by decide)
  rw [Nat.add_zero, iv_at xs k hk] at this
  exact ⟨older_iff.2 (Nat.lt_of_lt_of_le h1 hb.size), (hb.cell (p := ⟨g, k, none⟩) h1).trans this⟩

theorem pairs_ix {w : World} {B : Nat} {v : Value} {xs : List (Int × Int)} (h : w.ownsRow B 44 2 v xs.length (pv xs)) {k : Nat} (hk : k < xs.length) : ∃ g, v.ownBlock = some g ∧ (∀ W, (Instr.indexAt 40 v (.int .i64 (k : Int))).run Try.prog W = .ok (.pointer (some ⟨g, k * 2, none⟩)) W) ∧ ∀ w', Below w.heap.size w w' → older g w' = true ∧ w'.cell? ⟨g, k * 2, none⟩ = some (.int .i64 xs[k].1) ∧ w'.cell? ⟨g, k * 2 + 1, none⟩ = some (.int .i64 xs[k].2) := by
  obtain ⟨g, h1, h2, h3, h4⟩ := row_ix u_pairs sz_pair h hk (pv_len20 xs)
  refine ⟨g, h2, h3, fun w' hb => ?_⟩
  have a := h4 0 (by decide)
  have b := h4 1 (by decide)
  rw [Nat.add_zero, (pv_at xs k hk).1] at a
  rw [(pv_at xs k hk).2] at b
  exact ⟨older_iff.2 (Nat.lt_of_lt_of_le h1 hb.size), (hb.cell (p := ⟨g, k * 2, none⟩) h1).trans a, (hb.cell (p := ⟨g, k * 2 + 1, none⟩) h1).trans b⟩

theorem take_eq_succ {α : Type} {xs ys : List α} {k : Nat} (h : xs.take k = ys.take k) (h1 : k < xs.length) (h2 : k < ys.length) (he : xs[k] = ys[k]) : xs.take (k + 1) = ys.take (k + 1) := by
  rw [List.take_add_one, List.take_add_one, List.getElem?_eq_getElem h1, List.getElem?_eq_getElem h2, h, he]

theorem u_pair : Try.prog.underlying 44 = some (.array 2 3) := by kernel_rfl

theorem u_int : Try.prog.underlying 3 = some (.int .i64) := by kernel_rfl

theorem agg_int (W : World) : (isAgg 3).run Try.prog W = .ok false W := by kernel_rfl

theorem eq_pair (d : Nat) (a b c e : Int) (W : World) : (Op.equalIn (d + 2) 44 (.agg #[.int .i64 a, .int .i64 b]) (.agg #[.int .i64 c, .int .i64 e])).run Try.prog W = .ok (a == c && b == e) W := by
  have hi := fun x y => run_equalIn_int (P := Try.prog) W d 3 .i64 .i64 x y u_int
  rw [Op.equalIn]
  simp only [Sem.run_bind, run_underlying u_pair, Result.andThen]
  simp [go_sem, List.range', Sem.run_bind, agg_int, hi, Result.andThen]
  by_cases h1 : a = c
  · by_cases h2 : b = e
    · simp [h1, h2, Sem.run_bind, Result.andThen, agg_int, hi]
    · simp [h1, h2, Sem.run_bind, Result.andThen, agg_int, hi]
  · simp [h1, Sem.run_bind, Result.andThen, agg_int, hi]

theorem neq_pair (a b c e : Int) (W : World) : (binOp .neq 44 (.agg #[.int .i64 a, .int .i64 b]) (.agg #[.int .i64 c, .int .i64 e])).run Try.prog W = .ok (.bool (!(a == c && b == e))) W := by
  rw [run_neq_struct]
  have := eq_pair 9998 a b c e W
  simp only [this, Result.andThen]

end Go.Proofs.Ytfhhkabdeajieaa
