/- Laws of chapter 16: ManifoldFlip. -/
import Derived.Test.YtiecpebckmihgaaGreatMnK
set_option linter.unusedVariables false
namespace Go.Proofs.YtiecpebckmihgaaGreat
open Go.RowKit Fx

theorem eqM_refl (x y : Int) (l : List Cnt) : eqM x y l x y l = true := by unfold eqM; simp

theorem FrB.below {w w' : World} {B : Nat} {A : Option Addr} {l : List Cnt} (h : FrB w B A l) (hb : Below w.heap.size w w') : FrB w' B A l := by
  rcases h with h | ⟨b, c, t, e, hg, k⟩
  · exact .inl h
  · exact .inr ⟨b, c, t, e, hg, blk_below hb k⟩
theorem FrB.mono {w : World} {B B' : Nat} {A : Option Addr} {l : List Cnt} (h : FrB w B A l) (hb : B' ≤ B) : FrB w B' A l := by
  rcases h with h | ⟨b, c, t, e, hg, k⟩
  · exact .inl h
  · exact .inr ⟨b, c, t, e, by omega, k⟩
def Has (c : Array Value) (o n : Nat) : Prop := ∀ j, j < n → ∃ s, c[j * 6 + o]? = some (.int .i64 s)
theorem Has.set {c : Array Value} {o n i : Nat} {s : Int} (h : Has c o n) : Has (c.setIfInBounds i (.int .i64 s)) o n := fun j hj => by
  obtain ⟨u, hu⟩ := h j hj
  rw [Array.getElem?_setIfInBounds]
  split
  · rename_i e
    have hlt : i < c.size := by
      rw [e]; exact (Array.getElem?_eq_some_iff.1 hu).1
    rw [if_pos hlt]; exact ⟨s, rfl⟩
  · exact ⟨u, hu⟩
end Go.Proofs.YtiecpebckmihgaaGreat
