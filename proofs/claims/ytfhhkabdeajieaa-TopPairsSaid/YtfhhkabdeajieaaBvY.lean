/- Chapter 20: contracts of copyOf, Clone. -/
import Derived.Test.YtfhhkabdeajieaaBvP
import Derived.Test.YtfhhkabdeajieaaBvT
import Derived.Deep.DeepCutAuto
import Derived.Deep.RegionHeld3
set_option linter.unusedVariables false
set_option linter.unusedSimpArgs false
namespace Go.Proofs.Ytfhhkabdeajieaa
open Go.RowKit Fx

/-- The same tree in other blocks. -/
def Same : Tr → Tr → Prop
  | .leaf _ i x, .leaf _ j y => i = j ∧ x = y
  | .node _ a b, .node _ c d => Same a c ∧ Same b d
  | _, _ => False
theorem Same.all : ∀ {T U : Tr}, Same T U → U.lv.map (·.2) = T.lv.map (·.2) ∧ U.ht = T.ht ∧ U.box = T.box ∧ (T.bal → U.bal)
  | .leaf _ i x, .leaf _ j y, ⟨h1, h2⟩ => by subst h1 h2; exact ⟨rfl, rfl, rfl, fun _ => trivial⟩
  | .node _ a b, .node _ c d, ⟨h1, h2⟩ => by
    obtain ⟨p1, p2, p3, p4⟩ := h1.all
    obtain ⟨q1, q2, q3, q4⟩ := h2.all
    refine ⟨by simp only [Tr.lv, List.map_append, p1, q1], by simp only [Tr.ht, p2, q2], by simp only [Tr.box, p3, q3], fun ⟨a1, a2, a3, a4⟩ => ⟨p4 a1, q4 a2, by omega, by omega⟩⟩
  | .leaf _ _ _, .node _ _ _, h => h.elim
  | .node _ _ _, .leaf _ _ _, h => h.elim

/-- What copyOf leaves behind: a copy of T whose leaves stand in the map bm beside what was there. -/
def CopyPost (bm : Nat) (T : Tr) (F2 : Int → Option Nat) (n : Nat) (w w' : World) (r : Nat) : Prop :=
  ∃ (U : Tr) (M' : Nat → Nd) (F3 : Int → Option Nat), U.b = r ∧ Rep w' M' (fun k => k ∈ U.bs) ∧ Lay M' U ∧ (M' U.b).p = none ∧ U.bs.Nodup ∧ (∀ b ∈ U.bs, w.heap.size ≤ b) ∧ Same T U ∧ MapAt w' (some bm) F3 (n + T.lv.length) ∧ (∀ i c, F3 i = some c ↔ F2 i = some c ∨ ∃ x, (c, i, x) ∈ U.lv) ∧ But (fun k => k = bm) w w'
theorem CopyPost.early {bm : Nat} {T : Tr} {F2 : Int → Option Nat} {n : Nat} {w X w' : World} {r : Nat} (h : CopyPost bm T F2 n X w' r) (hb : Below w.heap.size w X) : CopyPost bm T F2 n w w' r := by
  obtain ⟨U, M', F3, h1, h2, h3, h4, h5, h6, h7, h8, h9, h10⟩ := h
  exact ⟨U, M', F3, h1, h2, h3, h4, h5, fun b hb' => Nat.le_trans hb.size (h6 b hb'), h7, h8, h9, (But.ofBelow hb _).trans h10 fun _ _ h => h⟩

theorem newleaf_h (i x0 y0 x1 y1 : Int) (w : World) : Calls Try.prog 59 #[.int .i64 i, .agg #[.int .i64 x0, .int .i64 y0, .int .i64 x1, .int .i64 y1]] w fun e w' => ∃ F, e = .returned (.pointer (some ⟨F, 0, none⟩)) ∧ w.heap.size ≤ F ∧ Hid (blk w' F (ndc ⟨i, ⟨x0, y0, x1, y1⟩, 1, none, none, none⟩) 89) ∧ ∃ q, w' = gw w q :=
  (newleaf_b i x0 y0 x1 y1 w).mono fun e w' ⟨h1, h2, h3⟩ => ⟨_, h1, by omega, h2, gw_of_below h3⟩

theorem lv_ids_nodup {T U : Tr} (h : Same T U) (hn : (T.lv.map (·.2.1)).Nodup) : (U.lv.map (·.2.1)).Nodup := by
  have := congrArg (List.map (·.1)) h.all.1
  rw [List.map_map, List.map_map] at this
  have e : U.lv.map (·.2.1) = T.lv.map (·.2.1) := this
  rw [e]; exact hn

theorem new_h (w : World) : Calls Try.prog 21 #[] w fun e w' => e = .returned (.pointer (some ⟨w.heap.size, 0, none⟩)) ∧ Hid (blk w' w.heap.size #[.pointer none, .map none] 78) ∧ ∃ q, w' = gw w q :=
  (new_b w).mono fun e w' ⟨h1, h2, h3⟩ => ⟨h1, h2, gw_of_below h3⟩

end Go.Proofs.Ytfhhkabdeajieaa
