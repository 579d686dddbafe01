/- Package polygon, the landed code: slices.Compact at an own row of points. -/
import Derived.Test.YtncijpaooiopfaaPge
set_option linter.unusedVariables false
namespace Go.Proofs.Ytncijpaooiopfaa
open Go.RowKit Fx

theorem gb_refl (w : World) (b : Nat) : w.grownBy w (some b) := ⟨rfl, rfl, rfl, Nat.le_refl _, fun _ _ _ => rfl⟩
theorem gb_set {w w' : World} {b i : Nat} {v : Value} (h : w.grownBy w' (some b)) : w.grownBy (w'.setCell ⟨b, i, none⟩ v) (some b) := by
  refine ⟨h.os, h.tape, h.output, by simpa [World.setCell] using h.size, fun k hk hne => ?_⟩
  have : b ≠ k := fun e => hne (by rw [e])
  rw [← h.block k hk hne]
  simp [World.setCell, Array.getElem?_modify, this]
theorem gb_gw {w w' : World} {b : Nat} {p : Gw} (h : w.grownBy w' (some b)) : w.grownBy (gw w' p) (some b) := by
  have hb := below_gw w' p
  exact ⟨hb.os.trans h.os, hb.tape.trans h.tape, hb.output.trans h.output, Nat.le_trans h.size hb.size, fun k hk hne => (hb.block k (Nat.lt_of_lt_of_le hk h.size)).trans (h.block k hk hne)⟩
theorem gb_cells {w w' : World} {b : Nat} (vs : List Value) : ∀ o, w.grownBy w' (some b) → w.grownBy (w'.setCells b o vs) (some b) := by
  induction vs generalizing w' with
  | nil => intro o h; exact h
  | cons v vs ih => intro o h; rw [World.setCells]; exact ih _ (gb_set h)
theorem blk_cells {w : World} {b : Nat} {t : TypeId} (vs : List Value) : ∀ (o : Nat) (c : Array Value), blk w b c t → ∃ c', blk (w.setCells b o vs) b c' t ∧ ∀ i, i < o → c'[i]? = c[i]? := by
  induction vs generalizing w with
  | nil => intro o c h; exact ⟨c, h, fun _ _ => rfl⟩
  | cons v vs ih =>
    intro o c h
    obtain ⟨c', h1, h2⟩ := ih (w := w.setCell ⟨b, o, none⟩ v) (o + 1) _ (blk_set h)
    refine ⟨c', by rw [World.setCells]; exact h1, fun i hi => ?_⟩
    rw [h2 i (by omega), Array.getElem?_setIfInBounds_ne (by omega)]
theorem Row.cells {w : World} {b : Nat} {ys : List Pt} {t : TypeId} (vs : List Value) {o : Nat} (h : Row w b ys t) (ho : ys.length * 2 ≤ o) : Row (w.setCells b o vs) b ys t := by
  obtain ⟨c, hb, hc⟩ := h
  obtain ⟨c', h1, h2⟩ := blk_cells vs o c hb
  exact ⟨c', h1, fun i hi => by rw [h2 i (by omega)]; exact hc i hi⟩
theorem Row.pre {w : World} {b m : Nat} {ys xs : List Pt} {t : TypeId} (h : Row w b xs t) (hm : xs.take m = ys) : Row w b ys t := by
  subst hm
  obtain ⟨c, hb, hc⟩ := h
  refine ⟨c, hb, fun i hi => ?_⟩
  have hl : (xs.take m).length ≤ xs.length := by simp; omega
  rw [hc i (by omega)]
  have hi2 : i / 2 < (xs.take m).length := by omega
  obtain ⟨g1, g2⟩ := pv_get xs (i / 2) (by omega)
  obtain ⟨g3, g4⟩ := pv_get (xs.take m) (i / 2) hi2
  rw [List.getElem_take] at g3 g4
  rcases Nat.mod_two_eq_zero_or_one i with hm | hm
  · have e : i / 2 * 2 = i := by omega
    rw [e] at g1 g3
    rw [g1, g3]
  · have e : i / 2 * 2 + 1 = i := by omega
    rw [e] at g2 g4
    rw [g2, g4]
theorem gw_gb {w w' : World} {b : Nat} (h : Below w.heap.size w w') : w.grownBy w' (some b) := ⟨h.os, h.tape, h.output, h.size, fun k hk _ => h.block k hk⟩
/-- clear of n points. -/
theorem clr_run (w : World) (b o n c : Nat) (hn : 0 < n) (hc : ∀ j, j < n * 2 → (w.cell? ⟨b, o + j, none⟩).isSome = true) (hf : ∀ j, j < n * 2 → w.frozen? ⟨b, o + j, none⟩ = false) :
    ∃ vs, ∀ ty : TypeId, (Builtin.clear_ #[22] ty #[.slice (some ⟨b, o, none⟩) n c]).run Try.prog w = .ok (.tuple #[]) (w.setCells b o vs) := by
  have hz : (zeroValue 27).run Try.prog w = .ok (.agg #[.int .i64 0, .int .i64 0]) w := by kernel_rfl
  have hl : (Builtin.zeroCells (Value.agg #[.int .i64 0, .int .i64 0]).cells n).toList.length = n * 2 := by
    simp [Builtin.zeroCells, Value.cells]
  have h1 : ∀ v ∈ (Builtin.zeroCells (Value.agg #[.int .i64 0, .int .i64 0]).cells n).toList, v.oneCell' = true := fun v hv => by
    simp [Builtin.zeroCells, Value.cells] at hv
    obtain ⟨i, hi, rfl⟩ := hv
    rcases Nat.mod_two_eq_zero_or_one i with hm | hm <;> simp [hm] <;> rfl
  have hst := run_storeCells_cells (P := Try.prog) b o (Builtin.zeroCells (Value.agg #[.int .i64 0, .int .i64 0]).cells n).toList 0 w (by rw [hl]; simpa using hc) (by rw [hl]; simpa using hf) h1
  simp only [Nat.add_zero] at hst
  obtain ⟨m, rfl⟩ : ∃ m, n = m + 1 := ⟨n - 1, by omega⟩
  refine ⟨(Builtin.zeroCells (Value.agg #[.int .i64 0, .int .i64 0]).cells (m + 1)).toList, fun ty => ?_⟩
  simp [Builtin.clear_, run_underlying Try.underlying22, hz, hst]

theorem Row.gw {w : World} {b : Nat} {ys : List Pt} {t : TypeId} {p : Gw} (h : Row w b ys t) : Row (gw w p) b ys t := by
  obtain ⟨c, hb, hc⟩ := h
  exact ⟨c, blk_gw hb, hc⟩
theorem Row.free {w : World} {b : Nat} {ys : List Pt} {t : TypeId} (h : Row w b ys t) (i : Nat) : w.frozen? ⟨b, i, none⟩ = false := by
  obtain ⟨c, hb, -⟩ := h
  exact blk_free hb i
theorem Row.old {w : World} {b : Nat} {ys : List Pt} {t : TypeId} (h : Row w b ys t) : older b w = true := by
  obtain ⟨c, hb, -⟩ := h
  exact blk_older hb
theorem Row.at {w : World} {b i : Nat} {ys : List Pt} {t : TypeId} (h : Row w b ys t) (hi : i < ys.length) : w.cell? ⟨b, i * 2, none⟩ = some (.int .i64 ys[i].1) ∧ w.cell? ⟨b, i * 2 + 1, none⟩ = some (.int .i64 ys[i].2) := by
  obtain ⟨c, hb, hc⟩ := h
  obtain ⟨g1, g2⟩ := pv_get ys i hi
  rw [blk_cell hb, blk_cell hb, hc _ (by omega), hc _ (by omega)]
  exact ⟨g1, g2⟩
theorem Row.set {w : World} {b m : Nat} {xs : List Pt} {t : TypeId} (h : Row w b xs t) (hm : m < xs.length) (x y : Int) : Row ((w.setCell ⟨b, m * 2, none⟩ (.int .i64 x)).setCell ⟨b, m * 2 + 1, none⟩ (.int .i64 y)) b (xs.set m (x, y)) t := by
  obtain ⟨c, hb, hc⟩ := h
  refine ⟨_, blk_set (blk_set hb), fun i hi => ?_⟩
  rw [List.length_set] at hi
  have hci : i < c.size := by
    have := hc i hi
    rw [List.getElem?_eq_getElem (by rw [pv_length]; exact hi)] at this
    exact (Array.getElem?_eq_some_iff.1 this).1
  rw [← pv_set, Array.getElem?_setIfInBounds, Array.getElem?_setIfInBounds, List.getElem?_set, List.getElem?_set, hc i hi]
  simp only [List.length_set, pv_length, Array.size_setIfInBounds]
  by_cases h1 : m * 2 + 1 = i
  · subst h1; simp [hci, hi]
  · rw [if_neg h1, if_neg h1]
    by_cases h2 : m * 2 = i
    · subst h2; simp [hci, hi]
    · rw [if_neg h2, if_neg h2]

theorem dd_take {ps : List Pt} {k : Nat} (h0 : 0 < k) (hk : k < ps.length) : dd (ps.take (k + 1)) = if ps[k - 1] = ps[k] then dd (ps.take k) else dd (ps.take k) ++ [ps[k]] := by
  have e : ps.take (k + 1) = ps.take k ++ [ps[k]] := (List.take_append_getElem hk).symm
  rw [e]
  refine dd_snoc _ _ _ ?_
  rw [List.getLast?_eq_getElem?, List.length_take, Nat.min_eq_left (by omega), List.getElem?_take_of_lt (by omega), List.getElem?_eq_getElem (by omega)]
theorem dd_len_take {ps : List Pt} {k : Nat} (hk : k ≤ ps.length) : (dd (ps.take k)).length ≤ k := by
  have := dd_len (ps.take k)
  rw [List.length_take, Nat.min_eq_left hk] at this
  exact this

end Go.Proofs.Ytncijpaooiopfaa
