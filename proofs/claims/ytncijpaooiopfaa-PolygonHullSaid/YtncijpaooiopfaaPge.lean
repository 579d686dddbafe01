/- Package polygon, the landed code: SortFunc, Reverse at an own row of points. -/
import Derived.Test.YtncijpaooiopfaaPgd
set_option linter.unusedVariables false
namespace Go.Proofs.Ytncijpaooiopfaa
open Go.RowKit Fx Go.Sort

def en (p : Pt) : List Value := [.int .i64 p.1, .int .i64 p.2]
theorem flat_pv (ps : List Pt) : flatK en 2 ps.toArray = (pv ps).toArray := by
  apply Array.ext_getElem?
  intro t
  by_cases h : t < ps.length * 2
  · have h1 : t < (flatK en 2 ps.toArray).size := by simpa using h
    have hi : t / 2 < ps.length := by omega
    rw [Array.getElem?_eq_getElem h1, ← getElem!_pos (flatK en 2 ps.toArray) t h1, get_flatK _ _ _ t (by simpa using h), getElem!_pos ps.toArray (t / 2) (by simpa using hi)]
    obtain ⟨g1, g2⟩ := pv_arr ps (t / 2) hi
    rcases Nat.mod_two_eq_zero_or_one t with hm | hm
    · have e : t / 2 * 2 = t := by omega
      rw [e] at g1
      rw [g1, hm]; simp [en]
    · have e : t / 2 * 2 + 1 = t := by omega
      rw [e] at g2
      rw [g2, hm]; simp [en]
  · rw [Array.getElem?_eq_none (by simp; omega), Array.getElem?_eq_none (by simp [pv_length]; omega)]
/-- Block b begins with these points. -/
def Row (w : World) (b : Nat) (ys : List Pt) (t : TypeId) : Prop := ∃ c, blk w b c t ∧ ∀ i, i < ys.length * 2 → c[i]? = (pv ys)[i]?
theorem Row.of {w : World} {b : Nat} {ys : List Pt} {t : TypeId} (h : blk w b (pv ys).toArray t) : Row w b ys t := ⟨_, h, fun i hi => by simp⟩
theorem Row.pts {w : World} {b : Nat} {ys : List Pt} {t : TypeId} (h : Row w b ys t) : Pts w (some ⟨b, 0, none⟩) ys := by
  obtain ⟨c, hb, hc⟩ := h
  refine .inr ⟨b, 0, rfl, fun i hi => ?_⟩
  obtain ⟨g1, g2⟩ := pv_get ys i hi
  rw [Nat.zero_add, blk_cell hb, blk_cell hb, hc _ (by omega), hc _ (by omega)]
  exact ⟨g1, g2⟩
theorem Row.holds {w : World} {b : Nat} {ys : List Pt} {t : TypeId} (h : Row w b ys t) : HoldsK en 2 w b 0 ys.toArray := by
  obtain ⟨c, hb, hc⟩ := h
  unfold HoldsK Holds
  rw [flat_pv]
  intro j hj
  have hj' : j < (pv ys).length := by simpa using hj
  have hj2 : j < ys.length * 2 := by rwa [pv_length] at hj'
  rw [Nat.zero_add, blk_cell hb, blk_free hb, hc j hj2, List.getElem?_eq_getElem hj', getElem!_pos (pv ys).toArray j hj]
  exact ⟨rfl, rfl⟩
theorem row_put {w : World} {b n : Nat} {os : Array Obj} {xs ys : List Pt} {t : TypeId} (h : Row w b xs t) (hl : ys.length = xs.length) : Row (grow (putRow id (Sort.ahead w n) b 0 (pv ys).toArray) os) b ys t := by
  obtain ⟨c, hb, hc⟩ := h
  have hg : b < w.heap.size := blk_lt hb
  have hcs : ys.length * 2 ≤ c.size := by
    rcases Nat.eq_zero_or_pos ys.length with h0 | h0
    · omega
    · have := hc (xs.length * 2 - 1) (by omega)
      rw [List.getElem?_eq_getElem (by rw [pv_length]; omega)] at this
      have := (Array.getElem?_eq_some_iff.1 this).1
      omega
  refine ⟨putCells id 0 (pv ys).toArray c, ?_, fun i hi => ?_⟩
  · unfold blk
    rw [heap_grow_old _ _ (by simpa using hg)]
    have hb' : w.heap[b]? = some (.cells c t) := hb
    simp [putRow, mapBlock, Sort.ahead, Array.getElem?_modify, hb', onCells]
  · have h1 : i < (pv ys).length := by rw [pv_length]; exact hi
    rw [List.getElem?_eq_getElem h1]
    simp [putCells, show i < c.size by omega, hi]
theorem gb_put {w : World} {b n : Nat} {os : Array Obj} (d : Array Value) : w.grownBy (grow (putRow id (Sort.ahead w n) b 0 d) os) (some b) := by
  refine ⟨rfl, rfl, rfl, by simp, fun k hk hne => ?_⟩
  rw [heap_grow_old _ _ (by simpa using hk)]
  have : b ≠ k := fun e => hne (by rw [e])
  simp [putRow, mapBlock, Sort.ahead, Array.getElem?_modify, this]

/-- The points in order. -/
def srtL (ps : List Pt) : List Pt := ps.mergeSort fun x y => !(ltOf lexC) y x
theorem srtL_len (ps : List Pt) : (srtL ps).length = ps.length := List.length_mergeSort ps
theorem srtL_mem {ps : List Pt} {x : Pt} : x ∈ srtL ps ↔ x ∈ ps := List.mem_mergeSort
theorem le_iff {x y : Pt} : (!(ltOf lexC) y x) = true ↔ lexLe x y := by
  unfold ltOf lexLe
  rw [Bool.not_eq_true', decide_eq_false_iff_not, lexC_lt, lexLt_iff]
  omega
theorem srtL_sorted (ps : List Pt) : (srtL ps).Pairwise lexLe := by
  have := List.pairwise_mergeSort (le := fun x y : Pt => !(ltOf lexC) y x) (fun a b c h1 h2 => by rw [le_iff] at *; unfold lexLe at *; omega) (fun a b => by rw [Bool.or_eq_true, le_iff, le_iff]; unfold lexLe; omega) ps
  exact this.imp fun {a b} h => le_iff.1 h

theorem grow_cmp (B : Nat) (n : Nat) (w : World) : CmpLays Try.prog 29 #[] en 2 lexC B 0 n w := fun m os dk _ x y => by
  obtain ⟨ax, ay⟩ := x
  obtain ⟨bx, b_y⟩ := y
  exact cxy_b ax ay bx b_y _

theorem xsort_b (B cap : Nat) (ps : List Pt) (hl : ps.length < 4611686018427387904) (w : World) (h : blk w B (pv ps).toArray 27) : Calls Try.prog 28 #[.slice (some ⟨B, 0, none⟩) ps.length cap, .func (.func 29) #[] #[]] w fun e w' => e = .returned (.tuple #[]) ∧ Row w' B (srtL ps) 27 ∧ w.grownBy w' (some B) := by
  have L := AnyQ.slices_SortFunc_total sf_lays 2 (fun _ => by kernel_rfl) (fun _ => by kernel_rfl) en (fun _ => rfl) (fun x v hv => by simp [en] at hv; rcases hv with rfl | rfl <;> rfl) lexC lexC_swo 29 #[] B 0 cap ps.toArray w (enters_of Try.func29 (by kernel_rfl) rfl) (grow_cmp B _ w) (Row.of h).holds (blk_lt h) (by simpa using hl) lexC_tot
  refine Calls.mono L ?_
  rintro e w' ⟨rfl, n, os, rfl⟩
  refine ⟨rfl, ?_, ?_⟩
  · show Row (grow (putRow id (Sort.ahead w n) B 0 (flatK en 2 (srtL ps).toArray)) os) B (srtL ps) _
    rw [flat_pv]
    exact row_put (Row.of h) (srtL_len ps)
  · exact gb_put _

theorem xrev_b (B cap : Nat) (ys : List Pt) (hl : ys.length ≤ 4611686018427387904) (w : World) (h : Row w B ys 27) : Calls Try.prog 32 #[.slice (some ⟨B, 0, none⟩) ys.length cap] w fun e w' => e = .returned (.tuple #[]) ∧ Row w' B ys.reverse 27 ∧ w.grownBy w' (some B) := by
  have L := AnyQ.slices_Reverse sr_lays 2 (fun _ => by kernel_rfl) (fun _ => by kernel_rfl) en (fun _ => rfl) (fun x v hv => by simp [en] at hv; rcases hv with rfl | rfl <;> rfl) B 0 cap ys.toArray w h.holds (by simp; omega)
  refine Calls.mono L ?_
  rintro e w' ⟨rfl, n, rfl⟩
  have e1 : putRowK en 2 (Sort.ahead w n) B 0 ys.toArray.reverse = grow (putRow id (Sort.ahead w n) B 0 (pv ys.reverse).toArray) #[] := by
    rw [grow_empty]; unfold putRowK; rw [← flat_pv, List.reverse_toArray]
  rw [e1]
  exact ⟨rfl, row_put h (by simp), gb_put _⟩

end Go.Proofs.Ytncijpaooiopfaa
