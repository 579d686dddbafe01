/- Contracts of RoundDiv, of the program and of the reference: each returns rdiv n d, whatever n and d are, and leaves the world as it is up to draws. No conditions. -/
import Derived.Test.YtgghkgihlfkmeaaFixA
import Derived.Deep.QuietTactic
import Derived.BigQuiet
import Derived.Lib.Hide
namespace Go.Proofs.Ytgghkgihlfkmeaa
open Go.RowKit Fx

/-- the world is as it was, but for draws -/
def Dr (w w' : World) : Prop := ∃ m, w' = w.drewN m
theorem Dr.refl (w : World) : Dr w w := ⟨0, rfl⟩
theorem Dr.trans {a b c : World} (h : Dr a b) (k : Dr b c) : Dr a c := by
  obtain ⟨m, rfl⟩ := h; obtain ⟨n, rfl⟩ := k; exact ⟨m + n, by rw [World.drewN_drewN]⟩
theorem Dr.mk (w : World) (n : Nat) : Dr w (w.drewN n) := ⟨n, rfl⟩
theorem Dr.grown {w w' : World} (h : Dr w w') : Grown w w' := by
  obtain ⟨m, rfl⟩ := h; exact Grown.refl w
theorem Dr.of_eq {w w' : World} (h : w = w') : Dr w w' := h ▸ Dr.refl w

end Go.Proofs.Ytgghkgihlfkmeaa
