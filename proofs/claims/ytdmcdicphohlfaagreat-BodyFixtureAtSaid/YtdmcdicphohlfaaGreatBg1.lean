/- Plain mathematics of chapter 20: binary trees of boxes, memory that holds them, the path from a node to the root, a node's adoption of two children, one node in the place of another. No program is imported.
Chapter 20: a world that has turned in some blocks alone; nodes in memory; adopt, replace.
Chapter 20: contracts of what only reads nodes: isLeaf, growth, closerChild, closestLeaf, split.
Chapter 20: balance, mend.
Chapter 20: attach, detach.
Chapter 20: a map from IDs to leaves.
Chapter 20: a tree in memory, as the list of its boxes by ID.
Chapter 20: contracts of New, Len, Height, Bounds, newLeaf.
Chapter 20: contracts of Insert, Remove, Update.
Chapter 20: contracts of copyOf, Clone.
Chapter 20: contracts of Remove, Update; the methods of a nil tree. -/
import Derived.Test.YtdmcdicphohlfaaGreatMa2
import Derived.Test.YtdmcdicphohlfaaGreatCo4
import Derived.LaidEqlPtr
import Derived.RegionTactic
import Derived.BigRegion
import Derived.Deep.DeepCutAuto
import Derived.Deep.LoopGhost
import Derived.Deep.RegionHeld3
import Derived.Maps.Own
import Derived.Maps.OwnSet
import Derived.Maps.Views

set_option linter.unusedVariables false
set_option linter.unusedSimpArgs false
namespace Go.Proofs.YtdmcdicphohlfaaGreat
open Fx

/-! The boxes: a search that misses a node's box misses all leaves below it. -/
theorem Bx.uni_of {a b : Bx} (ha : a.val = true) (hb : b.val = true) : Bx.uni a b = ⟨min a.x0 b.x0, min a.y0 b.y0, max a.x1 b.x1, max a.y1 b.y1⟩ := by simp [Bx.uni, ha, hb]
theorem Bx.uni_val {a b : Bx} (ha : a.val = true) (hb : b.val = true) : (Bx.uni a b).val = true := by
  rw [Bx.uni_of ha hb, Bx.val_iff]
  obtain ⟨p1, p2, p3, p4, p5, p6⟩ := Bx.val_iff.1 ha
  obtain ⟨q1, q2, q3, q4, q5, q6⟩ := Bx.val_iff.1 hb
  simp only [Bx.ok]
  refine ⟨by omega, by omega, ?_, ?_, ?_, ?_⟩
  · rcases Int.le_total a.x0 b.x0 with h | h <;> simp only [Int.min_eq_left, Int.min_eq_right, h] <;> assumption
  · rcases Int.le_total a.y0 b.y0 with h | h <;> simp only [Int.min_eq_left, Int.min_eq_right, h] <;> assumption
  · rcases Int.le_total a.x1 b.x1 with h | h <;> simp only [Int.max_eq_left, Int.max_eq_right, h] <;> assumption
  · rcases Int.le_total a.y1 b.y1 with h | h <;> simp only [Int.max_eq_left, Int.max_eq_right, h] <;> assumption
end Go.Proofs.YtdmcdicphohlfaaGreat

set_option linter.unusedVariables false
namespace Go.Proofs.YtdmcdicphohlfaaGreat
open Go.RowKit Fx

structure But (S : Nat → Prop) (w w' : World) : Prop where
  os : w'.os = w.os
  tape : w'.tape = w.tape
  output : w'.output = w.output
  size : w.heap.size ≤ w'.heap.size
  block : ∀ k, k < w.heap.size → ¬ S k → w'.heap[k]? = w.heap[k]?

theorem But.refl (S : Nat → Prop) (w : World) : But S w w := ⟨rfl, rfl, rfl, Nat.le_refl _, fun _ _ _ => rfl⟩
theorem But.trans {S S' : Nat → Prop} {a b c : World} (h : But S a b) (k : But S' b c) (hs : ∀ i, i < a.heap.size → S' i → S i) : But S a c :=
  ⟨k.os.trans h.os, k.tape.trans h.tape, k.output.trans h.output, Nat.le_trans h.size k.size, fun i hi hn => (k.block i (Nat.lt_of_lt_of_le hi h.size) (fun e => hn (hs i hi e))).trans (h.block i hi hn)⟩
theorem But.set {S : Nat → Prop} {a w : World} (h : But S a w) {b i : Nat} (hb : S b) (v : Value) : But S a (w.setCell ⟨b, i, none⟩ v) :=
  ⟨h.os, h.tape, h.output, Nat.le_trans h.size (by simp [World.setCell]), fun k hk hn => (Below.heap_setCell _ _ _ _ (by rintro rfl; exact hn hb)).trans (h.block k hk hn)⟩
theorem But.gw {S : Nat → Prop} {a w : World} (h : But S a w) (p : Gw) : But S a (gw w p) := by
  have hb := below_gw w p
  exact ⟨hb.os.trans h.os, hb.tape.trans h.tape, hb.output.trans h.output, Nat.le_trans h.size hb.size, fun k hk hn => (hb.block k (Nat.lt_of_lt_of_le hk h.size)).trans (h.block k hk hn)⟩
theorem But.below {S : Nat → Prop} {a w w' : World} (h : But S a w) (hb : Below w.heap.size w w') : But S a w' :=
  ⟨hb.os.trans h.os, hb.tape.trans h.tape, hb.output.trans h.output, Nat.le_trans h.size hb.size, fun k hk hn => (hb.block k (Nat.lt_of_lt_of_le hk h.size)).trans (h.block k hk hn)⟩
theorem But.alloc {S : Nat → Prop} {a w : World} (h : But S a w) (o : Obj) : But S a (w.alloc o) := h.below ((Below.refl _ w).alloc (Nat.le_refl _) o)
theorem But.drew {S : Nat → Prop} {a w : World} (h : But S a w) : But S a w.drew := ⟨h.os, h.tape, h.output, h.size, h.block⟩
theorem But.mono {S S' : Nat → Prop} {a w : World} (h : But S a w) (hs : ∀ k, k < a.heap.size → S k → S' k) : But S' a w := ⟨h.os, h.tape, h.output, h.size, fun k hk hn => h.block k hk fun e => hn (hs k hk e)⟩
theorem But.blk {S : Nat → Prop} {a w : World} (h : But S a w) {b : Nat} {c : Array Value} {t : TypeId} (hb : blk a b c t) (hn : ¬ S b) : blk w b c t := (h.block b (blk_lt hb) hn).trans hb
end Go.Proofs.YtdmcdicphohlfaaGreat

set_option linter.unusedVariables false
namespace Go.Proofs.YtdmcdicphohlfaaGreat
open Go.RowKit Fx

end Go.Proofs.YtdmcdicphohlfaaGreat

set_option linter.unusedVariables false
set_option linter.unusedSimpArgs false
namespace Go.Proofs.YtdmcdicphohlfaaGreat
open Go.RowKit Fx

end Go.Proofs.YtdmcdicphohlfaaGreat

set_option linter.unusedVariables false
set_option linter.unusedSimpArgs false
namespace Go.Proofs.YtdmcdicphohlfaaGreat
open Go.RowKit Fx

end Go.Proofs.YtdmcdicphohlfaaGreat

set_option linter.unusedVariables false
set_option linter.unusedSimpArgs false
namespace Go.Proofs.YtdmcdicphohlfaaGreat
open Go.RowKit Fx Go.Maps

def i64k (i : Int) : Prop := -9223372036854775808 ≤ i ∧ i ≤ 9223372036854775807
theorem But.grown {w w' : World} {b : Nat} (h : w.grownBy w' (some b)) : But (fun k => k = b) w w' := ⟨h.os, h.tape, h.output, h.size, fun k hk hn => h.block k hk (by simpa using hn)⟩

end Go.Proofs.YtdmcdicphohlfaaGreat

set_option linter.unusedVariables false
set_option linter.unusedSimpArgs false
namespace Go.Proofs.YtdmcdicphohlfaaGreat
open Go.RowKit Fx

/-! The tree as a list of IDs and boxes. -/
end Go.Proofs.YtdmcdicphohlfaaGreat

set_option linter.unusedVariables false
set_option linter.unusedSimpArgs false
namespace Go.Proofs.YtdmcdicphohlfaaGreat
open Go.RowKit Fx

end Go.Proofs.YtdmcdicphohlfaaGreat

set_option linter.unusedVariables false
set_option linter.unusedSimpArgs false
namespace Go.Proofs.YtdmcdicphohlfaaGreat
open Go.RowKit Fx

end Go.Proofs.YtdmcdicphohlfaaGreat

set_option linter.unusedVariables false
set_option linter.unusedSimpArgs false
namespace Go.Proofs.YtdmcdicphohlfaaGreat
open Go.RowKit Fx

end Go.Proofs.YtdmcdicphohlfaaGreat

set_option linter.unusedVariables false
set_option linter.unusedSimpArgs false
namespace Go.Proofs.YtdmcdicphohlfaaGreat
open Go.RowKit Fx

end Go.Proofs.YtdmcdicphohlfaaGreat
