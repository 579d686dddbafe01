/- Chapter 20: a map from IDs to leaves. -/
import Derived.Test.YtfhhkabdeajieaaBvM
import Derived.Maps.Own
import Derived.Maps.OwnSet
import Derived.Maps.Views
set_option linter.unusedVariables false
set_option linter.unusedSimpArgs false
namespace Go.Proofs.Ytfhhkabdeajieaa
open Go.RowKit Fx Go.Maps

/-- How a leaf's pointer reads: nil as nought, another one as its block's number and one. -/
def ptrE : Value → Option (DataW Unit × List MemPlace)
  | .pointer none => some (.lit (.int .u64 0), [])
  | .pointer (some ⟨b, 0, none⟩) => some (.lit (.int .u64 (b + 1)), [])
  | _ => none
def pcode : Option Nat → DataW Unit
  | none => .lit (.int .u64 0)
  | some b => .lit (.int .u64 (b + 1))
theorem ptrE_mk (p : Option Nat) : ptrE (nptr p) = some (pcode p, []) := by cases p <;> rfl
theorem ptrE_inv {v : Value} {p : Option Nat} {ps : List MemPlace} (h : ptrE v = some (pcode p, ps)) : v = nptr p := by
  unfold ptrE at h
  split at h
  · cases p with
    | none => rfl
    | some b => simp [pcode] at h; omega
  · cases p with
    | none => simp [pcode] at h; omega
    | some b => simp [pcode] at h; obtain ⟨h, _⟩ := h; simp only [nptr]; congr 3; omega
  · cases h

def i64k (i : Int) : Prop := -9223372036854775808 ≤ i ∧ i ≤ 9223372036854775807
theorem i64_wf {i : Int} (h : i64k i) : (Lit.int .i64 i).wf = true := WalkArith.wf_i64 h

/-- The map mb holds at i what F says; it has n entries. -/
def MapAt (w : World) : Option Nat → (Int → Option Nat) → Nat → Prop
  | none, F, n => (∀ i, F i = none) ∧ n = 0
  | some b, F, n => ∃ D : DataW Unit, w.ownsMap Try.prog 3 ptrE b n D ∧ size D = n ∧ (∀ i, D.atKey (.int .i64 i) (pcode none) = pcode (F i)) ∧ (∀ i, has D (.int .i64 i) = (F i).isSome)

theorem kmap : Keyed Try.prog 3 := int_keyed (q := .i64) (by kernel_rfl)

theorem umap : Try.prog.underlying 76 = some (.map 3 75) := by kernel_rfl

theorem zmap (w : World) : (zeroValue 75).run Try.prog w = .ok (.pointer none) w := by kernel_rfl

theorem kkey {i : Int} (h : i64k i) : keyOf Try.prog 3 (.int .i64 i) = some (.int .i64 i) := keyOf_int_mk (by kernel_rfl) (i64_wf h)

theorem mapat_look {w : World} {mb : Option Nat} {F : Int → Option Nat} {n : Nat} (h : MapAt w mb F n) {i : Int} (hi : i64k i) : (Instr.lookup 76 (.map mb) (.int .i64 i) false).run Try.prog w = .ok (nptr (F i)) w := by
  cases mb with
  | none => rw [h.1 i]; exact Maps.look_nil false kmap umap (zmap w) (kkey hi)
  | some b =>
    obtain ⟨D, h1, h2, h3, h4⟩ := h
    obtain ⟨v, ps, e1, e2⟩ := h1.lookup kmap umap (zmap w) (ptrE_mk none) (kkey hi)
    rw [h3 i] at e2
    rw [e1, ptrE_inv e2]

theorem mapat_len {w : World} {mb : Option Nat} {F : Int → Option Nat} {n : Nat} (h : MapAt w mb F n) (ty : TypeId) : (Builtin.len_ #[76] ty #[.map mb]).run Try.prog w = .ok (.int .i64 (n : Int)) w := by
  cases mb with
  | none => rw [h.2]; exact Maps.len_nil umap ty
  | some b =>
    obtain ⟨D, h1, h2, h3, h4⟩ := h
    rw [← h2]; exact h1.len umap ty

theorem mapat_but {w w' : World} {mb : Option Nat} {F : Int → Option Nat} {n : Nat} {S : Nat → Prop} (h : MapAt w mb F n) (hb : But S w w') (hs : ∀ b, mb = some b → ¬ S b) : MapAt w' mb F n := by
  cases mb with
  | none => exact h
  | some b =>
    obtain ⟨D, h1, h2⟩ := h
    refine ⟨D, ?_, h2⟩
    have hlt := h1.lt
    obtain ⟨es, clock, hb', Ft, hs', hD⟩ := h1
    exact ⟨es, clock, (hb.block b hlt (hs b rfl)).trans hb', Ft, hs', hD⟩

theorem mapat_lt {w : World} {b : Nat} {F : Int → Option Nat} {n : Nat} (h : MapAt w (some b) F n) : b < w.heap.size := by
  obtain ⟨D, h1, _⟩ := h; exact h1.lt

theorem mapat_new (w : World) : MapAt (w.alloc (.map #[] 0)) (some w.heap.size) (fun _ => none) 0 :=
  ⟨.map [], World.ownsMap_made _ _ _ _, rfl, fun i => rfl, fun i => rfl⟩

theorem But.grown {w w' : World} {b : Nat} (h : w.grownBy w' (some b)) : But (fun k => k = b) w w' := ⟨h.os, h.tape, h.output, h.size, fun k hk hn => h.block k hk (by simpa using hn)⟩

theorem owns_tight {w : World} {b n : Nat} {D : DataW Unit} (h : w.ownsMap Try.prog 3 ptrE b n D) : w.ownsMap Try.prog 3 ptrE b (size D) D := by
  obtain ⟨es, clock, hb, Ft, hs, rfl⟩ := h
  exact ⟨es, clock, hb, Ft, by rw [size_eq, length_sorted]; simp, rfl⟩

theorem klit (i : Int) : WideAt.IsKeyLit (.int .i64 i) := trivial

theorem mapat_put {w : World} {b : Nat} {F : Int → Option Nat} {n : Nat} (h : MapAt w (some b) F n) {i : Int} (hi : i64k i) (hn : n ≤ 100000) (hF : F i = none) (c : Nat) :
    ∃ w', (Instr.mapUpdate 76 (.map (some b)) (.int .i64 i) (.pointer (some ⟨c, 0, none⟩))).run Try.prog w = .ok () w' ∧ MapAt w' (some b) (fun j => if j = i then some c else F j) (n + 1) ∧ But (fun k => k = b) w w' := by
  obtain ⟨D, h1, h2, h3, h4⟩ := h
  obtain ⟨w', e1, e2, e3⟩ := h1.update kmap umap (by unfold maxLen; omega) (kkey hi) (ptrE_mk (some c))
  have hh : has D (.int .i64 i) = false := by rw [h4, hF]; rfl
  have hsz : size (D.put (.int .i64 i) (pcode (some c))) = n + 1 := by rw [size_put (h1.tidy kmap), hh, h2]; simp
  refine ⟨w', e1, ⟨_, hsz ▸ owns_tight e2, hsz, fun j => ?_, fun j => ?_⟩, But.grown e3⟩
  · dsimp only
    by_cases hj : j = i
    · subst hj; rw [if_pos rfl]; exact atKey_put_same h1.isMap (klit _) _ _
    · rw [if_neg hj, ← h3 j]; exact atKey_put_other (by simpa using hj) _ _
  · dsimp only
    by_cases hj : j = i
    · subst hj; rw [if_pos rfl]; exact has_put_same h1.isMap (klit _) _
    · rw [if_neg hj, ← h4 j]; exact has_put_other (by simpa using hj) _

theorem mapat_del {w : World} {b : Nat} {F : Int → Option Nat} {n : Nat} (h : MapAt w (some b) F n) {i : Int} (hi : i64k i) (hF : (F i).isSome = true) (ty : TypeId) :
    ∃ w', (Builtin.delete_ #[76, 3] ty #[.map (some b), .int .i64 i]).run Try.prog w = .ok (.tuple #[]) w' ∧ MapAt w' (some b) (fun j => if j = i then none else F j) (n - 1) ∧ But (fun k => k = b) w w' := by
  obtain ⟨D, h1, h2, h3, h4⟩ := h
  obtain ⟨w', e1, e2, e3⟩ := h1.drop kmap umap (kkey hi) ty
  have hh : has D (.int .i64 i) = true := by rw [h4, hF]
  have hsz : size (D.del (.int .i64 i)) = n - 1 := by have := size_del (k := .int .i64 i) (h1.tidy kmap); rw [hh, h2] at this; simp at this; omega
  refine ⟨w', e1, ⟨_, hsz ▸ owns_tight e2, hsz, fun j => ?_, fun j => ?_⟩, But.grown e3.grown⟩
  · dsimp only
    by_cases hj : j = i
    · subst hj; rw [if_pos rfl]; exact atKey_del_same _
    · rw [if_neg hj, ← h3 j]; exact atKey_del_other (by simpa using hj) _
  · dsimp only
    by_cases hj : j = i
    · subst hj; rw [if_pos rfl]; exact has_del_same
    · rw [if_neg hj, ← h4 j]; exact has_del_other (by simpa using hj)

end Go.Proofs.Ytfhhkabdeajieaa
