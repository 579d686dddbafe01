/- Chapter 21, Go's library at pairs: slices.Compact, Grow, Concat. -/
import Derived.Test.YtfhhkabdeajieaaGreatSpB
import Derived.Test.YtfhhkabdeajieaaGreatBvZ
import Derived.Lib.SlBuf
import Derived.Lib.AppendZerosOnto
import Derived.Lib.LazyBuf
import Derived.Deep.DeepCutAuto
set_option linter.unusedVariables false
set_option linter.unusedSimpArgs false
namespace Go.Proofs.YtfhhkabdeajieaaGreat
open Go.RowKit Fx Go.Sort

theorem eql_pair (a b c e : Int) (W : World) : (binOp .eql 45 (.agg #[.int .i64 a, .int .i64 b]) (.agg #[.int .i64 c, .int .i64 e])).run Tryz.prog W = .ok (.bool (a == c && b == e)) W := by
  rw [run_eql_struct]
  have := eq_pair 9998 a b c e W
  simp only [this, Result.andThen]
theorem gwp_zero (w : World) : gw w ⟨w.drawn, #[]⟩ = w := by unfold gw; simp
theorem ptsp_open {w : World} {A : Option Addr} {ps : List (Int × Int)} (ha : Pts w A ps) (h0 : 0 < ps.length) : ∃ b off, A = some ⟨b, off, none⟩ ∧ ∀ (i : Nat) (h : i < ps.length), w.cell? ⟨b, off + i * 2, none⟩ = some (.int .i64 ps[i].1) ∧ w.cell? ⟨b, off + i * 2 + 1, none⟩ = some (.int .i64 ps[i].2) := by
  rcases ha with h | ⟨b, off, rfl, hc⟩
  · rw [h] at h0; simp at h0
  · exact ⟨b, off, rfl, hc⟩

/-- Block b begins with these points. -/
def RowP (w : World) (b : Nat) (ys : List Pr) (t : TypeId) : Prop := ∃ c, blk w b c t ∧ ∀ i, i < ys.length * 2 → c[i]? = (pv ys)[i]?
theorem RowP.of {w : World} {b : Nat} {ys : List Pr} {t : TypeId} (h : blk w b (pv ys).toArray t) : RowP w b ys t := ⟨_, h, fun i hi => by simp⟩
theorem RowP.pts {w : World} {b : Nat} {ys : List Pr} {t : TypeId} (h : RowP w b ys t) : Pts w (some ⟨b, 0, none⟩) ys := by
  obtain ⟨c, hb, hc⟩ := h
  refine .inr ⟨b, 0, rfl, fun i hi => ?_⟩
  obtain ⟨g1, g2⟩ := pv_get ys i hi
  rw [Nat.zero_add, blk_cell hb, blk_cell hb, hc _ (by omega), hc _ (by omega)]
  exact ⟨g1, g2⟩

theorem gbp_refl (w : World) (b : Nat) : w.grownBy w (some b) := ⟨rfl, rfl, rfl, Nat.le_refl _, fun _ _ _ => rfl⟩
theorem gbp_set {w w' : World} {b i : Nat} {v : Value} (h : w.grownBy w' (some b)) : w.grownBy (w'.setCell ⟨b, i, none⟩ v) (some b) := by
  refine ⟨h.os, h.tape, h.output, by simpa [World.setCell] using h.size, fun k hk hne => ?_⟩
  have : b ≠ k := fun e => hne (by rw [e])
  rw [← h.block k hk hne]
  simp [World.setCell, Array.getElem?_modify, this]
theorem gbp_gw {w w' : World} {b : Nat} {p : Gw} (h : w.grownBy w' (some b)) : w.grownBy (gw w' p) (some b) := by
  have hb := below_gw w' p
  exact ⟨hb.os.trans h.os, hb.tape.trans h.tape, hb.output.trans h.output, Nat.le_trans h.size hb.size, fun k hk hne => (hb.block k (Nat.lt_of_lt_of_le hk h.size)).trans (h.block k hk hne)⟩
theorem gbp_cells {w w' : World} {b : Nat} (vs : List Value) : ∀ o, w.grownBy w' (some b) → w.grownBy (w'.setCells b o vs) (some b) := by
  induction vs generalizing w' with
  | nil => intro o h; exact h
  | cons v vs ih => intro o h; rw [World.setCells]; exact ih _ (gbp_set h)
theorem blkp_cells {w : World} {b : Nat} {t : TypeId} (vs : List Value) : ∀ (o : Nat) (c : Array Value), blk w b c t → ∃ c', blk (w.setCells b o vs) b c' t ∧ ∀ i, i < o → c'[i]? = c[i]? := by
  induction vs generalizing w with
  | nil => intro o c h; exact ⟨c, h, fun _ _ => rfl⟩
  | cons v vs ih =>
    intro o c h
    obtain ⟨c', h1, h2⟩ := ih (w := w.setCell ⟨b, o, none⟩ v) (o + 1) _ (blk_set h)
    refine ⟨c', by rw [World.setCells]; exact h1, fun i hi => ?_⟩
    rw [h2 i (by omega), Array.getElem?_setIfInBounds_ne (by omega)]
theorem RowP.cells {w : World} {b : Nat} {ys : List Pr} {t : TypeId} (vs : List Value) {o : Nat} (h : RowP w b ys t) (ho : ys.length * 2 ≤ o) : RowP (w.setCells b o vs) b ys t := by
  obtain ⟨c, hb, hc⟩ := h
  obtain ⟨c', h1, h2⟩ := blkp_cells vs o c hb
  exact ⟨c', h1, fun i hi => by rw [h2 i (by omega)]; exact hc i hi⟩
theorem RowP.pre {w : World} {b m : Nat} {ys xs : List Pr} {t : TypeId} (h : RowP w b xs t) (hm : xs.take m = ys) : RowP w b ys t := by
  subst hm
  obtain ⟨c, hb, hc⟩ := h
  refine ⟨c, hb, fun i hi => ?_⟩
  have hl : (xs.take m).length ≤ xs.length := by simp; omega
  rw [hc i (by omega)]
  have hi2 : i / 2 < (xs.take m).length := by omega
  obtain ⟨g1, g2⟩ := pv_get xs (i / 2) (by omega)
  obtain ⟨g3, g4⟩ := pv_get (xs.take m) (i / 2) hi2
  rw [List.getElem_take] at g3 g4
  rcases Nat.mod_two_eq_zero_or_one i with hm | hm
  · have e : i / 2 * 2 = i := by omega
    rw [e] at g1 g3
    rw [g1, g3]
  · have e : i / 2 * 2 + 1 = i := by omega
    rw [e] at g2 g4
    rw [g2, g4]
theorem gwp_gb {w w' : World} {b : Nat} (h : Below w.heap.size w w') : w.grownBy w' (some b) := ⟨h.os, h.tape, h.output, h.size, fun k hk _ => h.block k hk⟩

/-- clear of n points. -/
theorem clrp_run (w : World) (b o n c : Nat) (hn : 0 < n) (hc : ∀ j, j < n * 2 → (w.cell? ⟨b, o + j, none⟩).isSome = true) (hf : ∀ j, j < n * 2 → w.frozen? ⟨b, o + j, none⟩ = false) :
    ∃ vs, ∀ ty : TypeId, (Builtin.clear_ #[34] ty #[.slice (some ⟨b, o, none⟩) n c]).run Tryz.prog w = .ok (.tuple #[]) (w.setCells b o vs) := by
  have hz : (zeroValue 45).run Tryz.prog w = .ok (.agg #[.int .i64 0, .int .i64 0]) w := by kernel_rfl
  have hl : (Builtin.zeroCells (Value.agg #[.int .i64 0, .int .i64 0]).cells n).toList.length = n * 2 := by
    simp [Builtin.zeroCells, Value.cells]
  have h1 : ∀ v ∈ (Builtin.zeroCells (Value.agg #[.int .i64 0, .int .i64 0]).cells n).toList, v.oneCell' = true := fun v hv => by
    simp [Builtin.zeroCells, Value.cells] at hv
    obtain ⟨i, hi, rfl⟩ := hv
    rcases Nat.mod_two_eq_zero_or_one i with hm | hm <;> simp [hm] <;> rfl
  have hst := run_storeCells_cells (P := Tryz.prog) b o (Builtin.zeroCells (Value.agg #[.int .i64 0, .int .i64 0]).cells n).toList 0 w (by rw [hl]; simpa using hc) (by rw [hl]; simpa using hf) h1
  simp only [Nat.add_zero] at hst
  obtain ⟨m, rfl⟩ : ∃ m, n = m + 1 := ⟨n - 1, by omega⟩
  refine ⟨(Builtin.zeroCells (Value.agg #[.int .i64 0, .int .i64 0]).cells (m + 1)).toList, fun ty => ?_⟩
  simp [Builtin.clear_, run_underlying Tryz.underlying34, hz, hst]

theorem RowP.gw {w : World} {b : Nat} {ys : List Pr} {t : TypeId} {p : Gw} (h : RowP w b ys t) : RowP (gw w p) b ys t := by
  obtain ⟨c, hb, hc⟩ := h
  exact ⟨c, blk_gw hb, hc⟩
theorem RowP.free {w : World} {b : Nat} {ys : List Pr} {t : TypeId} (h : RowP w b ys t) (i : Nat) : w.frozen? ⟨b, i, none⟩ = false := by
  obtain ⟨c, hb, -⟩ := h
  exact blk_free hb i
theorem RowP.old {w : World} {b : Nat} {ys : List Pr} {t : TypeId} (h : RowP w b ys t) : older b w = true := by
  obtain ⟨c, hb, -⟩ := h
  exact blk_older hb
theorem RowP.at {w : World} {b i : Nat} {ys : List Pr} {t : TypeId} (h : RowP w b ys t) (hi : i < ys.length) : w.cell? ⟨b, i * 2, none⟩ = some (.int .i64 ys[i].1) ∧ w.cell? ⟨b, i * 2 + 1, none⟩ = some (.int .i64 ys[i].2) := by
  obtain ⟨c, hb, hc⟩ := h
  obtain ⟨g1, g2⟩ := pv_get ys i hi
  rw [blk_cell hb, blk_cell hb, hc _ (by omega), hc _ (by omega)]
  exact ⟨g1, g2⟩
theorem RowP.set {w : World} {b m : Nat} {xs : List Pr} {t : TypeId} (h : RowP w b xs t) (hm : m < xs.length) (x y : Int) : RowP ((w.setCell ⟨b, m * 2, none⟩ (.int .i64 x)).setCell ⟨b, m * 2 + 1, none⟩ (.int .i64 y)) b (xs.set m (x, y)) t := by
  obtain ⟨c, hb, hc⟩ := h
  refine ⟨_, blk_set (blk_set hb), fun i hi => ?_⟩
  rw [List.length_set] at hi
  have hci : i < c.size := by
    have := hc i hi
    rw [List.getElem?_eq_getElem (by rw [pv_length]; exact hi)] at this
    exact (Array.getElem?_eq_some_iff.1 this).1
  rw [← pv_set, Array.getElem?_setIfInBounds, Array.getElem?_setIfInBounds, List.getElem?_set, List.getElem?_set, hc i hi]
  simp only [List.length_set, pv_length, Array.size_setIfInBounds]
  by_cases h1 : m * 2 + 1 = i
  · subst h1; simp [hci, hi]
  · rw [if_neg h1, if_neg h1]
    by_cases h2 : m * 2 = i
    · subst h2; simp [hci, hi]
    · rw [if_neg h2, if_neg h2]

end Go.Proofs.YtfhhkabdeajieaaGreat
