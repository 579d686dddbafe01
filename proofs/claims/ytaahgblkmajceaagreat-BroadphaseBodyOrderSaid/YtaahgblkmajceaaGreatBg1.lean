/- Plain mathematics of chapter 20: binary trees of boxes, memory that holds them, the path from a node to the root, a node's adoption of two children, one node in the place of another. No program is imported.
Chapter 20: a world that has turned in some blocks alone; nodes in memory; adopt, replace.
Chapter 20: contracts of what only reads nodes: isLeaf, growth, closerChild, closestLeaf, split.
Chapter 20: balance, mend.
Chapter 20: attach, detach.
Chapter 20: a map from IDs to leaves.
Chapter 20: a tree in memory, as the list of its boxes by ID.
Chapter 20: contracts of New, Len, Height, Bounds, newLeaf.
Chapter 20: contracts of Insert, Remove, Update.
Chapter 20: contracts of copyOf, Clone.
Chapter 20: contracts of Remove, Update; the methods of a nil tree. -/
import Derived.Test.YtaahgblkmajceaaGreatMa2
import Derived.Test.YtaahgblkmajceaaGreatCo4
import Derived.LaidEqlPtr
import Derived.RegionTactic
import Derived.BigRegion
import Derived.Deep.DeepCutAuto
import Derived.Deep.LoopGhost
import Derived.Deep.RegionHeld3
import Derived.Maps.Own
import Derived.Maps.OwnSet
import Derived.Maps.Views

set_option linter.unusedVariables false
set_option linter.unusedSimpArgs false
namespace Go.Proofs.YtaahgblkmajceaaGreat
open Fx

/-! The boxes: a search that misses a node's box misses all leaves below it. -/
end Go.Proofs.YtaahgblkmajceaaGreat

set_option linter.unusedVariables false
namespace Go.Proofs.YtaahgblkmajceaaGreat
open Go.RowKit Fx

structure But (S : Nat → Prop) (w w' : World) : Prop where
  os : w'.os = w.os
  tape : w'.tape = w.tape
  output : w'.output = w.output
  size : w.heap.size ≤ w'.heap.size
  block : ∀ k, k < w.heap.size → ¬ S k → w'.heap[k]? = w.heap[k]?

theorem But.refl (S : Nat → Prop) (w : World) : But S w w := ⟨rfl, rfl, rfl, Nat.le_refl _, fun _ _ _ => rfl⟩
theorem But.trans {S S' : Nat → Prop} {a b c : World} (h : But S a b) (k : But S' b c) (hs : ∀ i, i < a.heap.size → S' i → S i) : But S a c :=
  ⟨k.os.trans h.os, k.tape.trans h.tape, k.output.trans h.output, Nat.le_trans h.size k.size, fun i hi hn => (k.block i (Nat.lt_of_lt_of_le hi h.size) (fun e => hn (hs i hi e))).trans (h.block i hi hn)⟩
theorem But.set {S : Nat → Prop} {a w : World} (h : But S a w) {b i : Nat} (hb : S b) (v : Value) : But S a (w.setCell ⟨b, i, none⟩ v) :=
  ⟨h.os, h.tape, h.output, Nat.le_trans h.size (by simp [World.setCell]), fun k hk hn => (Below.heap_setCell _ _ _ _ (by rintro rfl; exact hn hb)).trans (h.block k hk hn)⟩
theorem But.gw {S : Nat → Prop} {a w : World} (h : But S a w) (p : Gw) : But S a (gw w p) := by
  have hb := below_gw w p
  exact ⟨hb.os.trans h.os, hb.tape.trans h.tape, hb.output.trans h.output, Nat.le_trans h.size hb.size, fun k hk hn => (hb.block k (Nat.lt_of_lt_of_le hk h.size)).trans (h.block k hk hn)⟩
theorem But.below {S : Nat → Prop} {a w w' : World} (h : But S a w) (hb : Below w.heap.size w w') : But S a w' :=
  ⟨hb.os.trans h.os, hb.tape.trans h.tape, hb.output.trans h.output, Nat.le_trans h.size hb.size, fun k hk hn => (hb.block k (Nat.lt_of_lt_of_le hk h.size)).trans (h.block k hk hn)⟩
theorem But.alloc {S : Nat → Prop} {a w : World} (h : But S a w) (o : Obj) : But S a (w.alloc o) := h.below ((Below.refl _ w).alloc (Nat.le_refl _) o)
theorem But.drew {S : Nat → Prop} {a w : World} (h : But S a w) : But S a w.drew := ⟨h.os, h.tape, h.output, h.size, h.block⟩
theorem But.mono {S S' : Nat → Prop} {a w : World} (h : But S a w) (hs : ∀ k, k < a.heap.size → S k → S' k) : But S' a w := ⟨h.os, h.tape, h.output, h.size, fun k hk hn => h.block k hk fun e => hn (hs k hk e)⟩
theorem But.blk {S : Nat → Prop} {a w : World} (h : But S a w) {b : Nat} {c : Array Value} {t : TypeId} (hb : blk a b c t) (hn : ¬ S b) : blk w b c t := (h.block b (blk_lt hb) hn).trans hb
end Go.Proofs.YtaahgblkmajceaaGreat

set_option linter.unusedVariables false
namespace Go.Proofs.YtaahgblkmajceaaGreat
open Go.RowKit Fx

end Go.Proofs.YtaahgblkmajceaaGreat

set_option linter.unusedVariables false
set_option linter.unusedSimpArgs false
namespace Go.Proofs.YtaahgblkmajceaaGreat
open Go.RowKit Fx

end Go.Proofs.YtaahgblkmajceaaGreat

set_option linter.unusedVariables false
set_option linter.unusedSimpArgs false
namespace Go.Proofs.YtaahgblkmajceaaGreat
open Go.RowKit Fx

end Go.Proofs.YtaahgblkmajceaaGreat

set_option linter.unusedVariables false
set_option linter.unusedSimpArgs false
namespace Go.Proofs.YtaahgblkmajceaaGreat
open Go.RowKit Fx Go.Maps

def i64k (i : Int) : Prop := -9223372036854775808 ≤ i ∧ i ≤ 9223372036854775807
theorem i64_wf {i : Int} (h : i64k i) : (Lit.int .i64 i).wf = true := WalkArith.wf_i64 h

theorem kmap : Keyed Tryz.prog 3 := int_keyed (q := .i64) (by kernel_rfl)

theorem kkey {i : Int} (h : i64k i) : keyOf Tryz.prog 3 (.int .i64 i) = some (.int .i64 i) := keyOf_int_mk (by kernel_rfl) (i64_wf h)

theorem But.grown {w w' : World} {b : Nat} (h : w.grownBy w' (some b)) : But (fun k => k = b) w w' := ⟨h.os, h.tape, h.output, h.size, fun k hk hn => h.block k hk (by simpa using hn)⟩

theorem klit (i : Int) : WideAt.IsKeyLit (.int .i64 i) := trivial

end Go.Proofs.YtaahgblkmajceaaGreat

set_option linter.unusedVariables false
set_option linter.unusedSimpArgs false
namespace Go.Proofs.YtaahgblkmajceaaGreat
open Go.RowKit Fx

/-! The tree as a list of IDs and boxes. -/
abbrev Bxs := List (Int × Bx)
def look (L : Bxs) (i : Int) : Option Bx := (L.find? fun e => e.1 == i).map (·.2)
def remL (L : Bxs) (i : Int) : Bxs := L.filter fun e => !(e.1 == i)
def insL : Bxs → Int → Bx → Bxs
  | [], i, x => [(i, x)]
  | e :: L, i, x => if e.1 < i then e :: insL L i x else (i, x) :: e :: L
def Srt (L : Bxs) : Prop := L.Pairwise fun a b => a.1 < b.1

theorem insL_perm (i : Int) (x : Bx) : ∀ L : Bxs, (insL L i x).Perm ((i, x) :: L)
  | [] => List.Perm.refl _
  | e :: L => by
    unfold insL; split
    · exact ((insL_perm i x L).cons e).trans (List.Perm.swap _ _ _)
    · exact List.Perm.refl _
theorem insL_srt {i : Int} (x : Bx) : ∀ {L : Bxs}, Srt L → (∀ e ∈ L, e.1 ≠ i) → Srt (insL L i x)
  | [], _, _ => by simp [insL, Srt]
  | e :: L, h, hn => by
    have h' := List.pairwise_cons.1 h
    unfold insL; split
    · rename_i hlt
      refine List.pairwise_cons.2 ⟨fun y hy => ?_, insL_srt x h'.2 fun y hy => hn y (by simp [hy])⟩
      rcases List.mem_cons.1 ((insL_perm i x L).mem_iff.1 hy) with rfl | hy
      · exact hlt
      · exact h'.1 y hy
    · rename_i hlt
      have hne := hn e (by simp)
      refine List.pairwise_cons.2 ⟨fun y hy => ?_, h⟩
      rcases List.mem_cons.1 hy with rfl | hy
      · show i < y.1; omega
      · have := h'.1 y hy; show i < y.1; omega
theorem srt_ext : ∀ {L L' : Bxs}, Srt L → Srt L' → L.Perm L' → L = L'
  | L, L', h, h', hp => List.Perm.eq_of_pairwise (le := fun a b : Int × Bx => a.1 < b.1) (fun a b _ _ h1 h2 => by omega) h h' hp

theorem But.ofBelow {w w' : World} (h : Below w.heap.size w w') (S : Nat → Prop) : But S w w' := (But.refl S w).below h
end Go.Proofs.YtaahgblkmajceaaGreat

set_option linter.unusedVariables false
set_option linter.unusedSimpArgs false
namespace Go.Proofs.YtaahgblkmajceaaGreat
open Go.RowKit Fx

end Go.Proofs.YtaahgblkmajceaaGreat

set_option linter.unusedVariables false
set_option linter.unusedSimpArgs false
namespace Go.Proofs.YtaahgblkmajceaaGreat
open Go.RowKit Fx

end Go.Proofs.YtaahgblkmajceaaGreat

set_option linter.unusedVariables false
set_option linter.unusedSimpArgs false
namespace Go.Proofs.YtaahgblkmajceaaGreat
open Go.RowKit Fx

end Go.Proofs.YtaahgblkmajceaaGreat

set_option linter.unusedVariables false
set_option linter.unusedSimpArgs false
namespace Go.Proofs.YtaahgblkmajceaaGreat
open Go.RowKit Fx

end Go.Proofs.YtaahgblkmajceaaGreat
