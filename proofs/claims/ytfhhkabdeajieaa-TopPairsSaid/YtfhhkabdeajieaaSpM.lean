/- Chapter 21: maps whose values are bool: from IDs, from pairs. -/
import Derived.Test.YtfhhkabdeajieaaSpB
import Derived.Maps.Own
import Derived.Maps.OwnSet
import Derived.Maps.Views
import Derived.DeepKeys4
set_option linter.unusedVariables false
set_option linter.unusedSimpArgs false
namespace Go.Proofs.Ytfhhkabdeajieaa
open Go.RowKit Fx Go.Maps

def boolE : Value → Option (DataW Unit × List MemPlace)
  | .bool b => some (.lit (.int .u64 (if b then 1 else 0)), [])
  | _ => none
def bcode (b : Bool) : DataW Unit := .lit (.int .u64 (if b then 1 else 0))
theorem boolE_mk (b : Bool) : boolE (.bool b) = some (bcode b, []) := rfl
theorem boolE_inv {v : Value} {b : Bool} {ps : List MemPlace} (h : boolE v = some (bcode b, ps)) : v = .bool b := by
  unfold boolE at h
  split at h
  · rename_i c
    cases b <;> cases c <;> simp [bcode] at h <;> rfl
  · cases h

/-- A type's keys: the values kv, their codes kl, for the x of which ok holds. -/
structure KeyT (T : TypeId) {K : Type} (kv : K → Value) (kl : K → Lit) (ok : K → Prop) : Prop where
  keyed : Keyed Try.prog T
  key : ∀ x, ok x → keyOf Try.prog T (kv x) = some (kl x)
  vinj : ∀ x y, kv x = kv y → x = y
theorem KeyT.inj {T : TypeId} {K : Type} {kv : K → Value} {kl : K → Lit} {ok : K → Prop} (h : KeyT T kv kl ok) {x y : K} (hx : ok x) (hy : ok y) (e : kl x = kl y) : x = y :=
  h.vinj x y (h.keyed.inj (h.key x hx) (e ▸ h.key y hy))
/-- The map b holds true at x where F says so. -/
def BMap {K : Type} (T : TypeId) (kl : K → Lit) (ok : K → Prop) (w : World) (b : Nat) (F : K → Bool) (n : Nat) : Prop := ∃ D : DataW Unit, w.ownsMap Try.prog T boolE b n D ∧ ∀ x, ok x → D.atKey (kl x) (bcode false) = bcode (F x)
theorem BMap.lt {K : Type} {T : TypeId} {kl : K → Lit} {ok : K → Prop} {w : World} {b : Nat} {F : K → Bool} {n : Nat} (h : BMap T kl ok w b F n) : b < w.heap.size := by obtain ⟨D, h1, _⟩ := h; exact h1.lt
theorem BMap.new {K : Type} (T : TypeId) (kl : K → Lit) (ok : K → Prop) (w : World) : BMap T kl ok (w.alloc (.map #[] 0)) w.heap.size (fun _ => false) 0 := ⟨.map [], World.ownsMap_made _ _ _ _, fun x _ => rfl⟩
theorem BMap.kept {K : Type} {T : TypeId} {kl : K → Lit} {ok : K → Prop} {w w' : World} {b : Nat} {F : K → Bool} {n : Nat} (h : BMap T kl ok w b F n) (hk : w'.heap[b]? = w.heap[b]?) : BMap T kl ok w' b F n := by
  obtain ⟨D, ⟨es, clock, hb, r⟩, h2⟩ := h
  exact ⟨D, ⟨es, clock, hk.trans hb, r⟩, h2⟩
theorem BMap.to {K : Type} {T : TypeId} {kl : K → Lit} {ok : K → Prop} {w w' : World} {b : Nat} {F : K → Bool} {n : Nat} (h : BMap T kl ok w b F n) (hb : Below w.heap.size w w') : BMap T kl ok w' b F n := h.kept (hb.block b h.lt)
theorem BMap.grown {K : Type} {T : TypeId} {kl : K → Lit} {ok : K → Prop} {w w' : World} {b : Nat} {F : K → Bool} {n : Nat} {row : Option Nat} (h : BMap T kl ok w b F n) (hg : w.grownBy w' row) (hne : row ≠ some b) : BMap T kl ok w' b F n := h.kept (hg.block b h.lt (fun e => hne e.symm))
theorem BMap.look {K : Type} {T MT BT : TypeId} {kv : K → Value} {kl : K → Lit} {ok : K → Prop} (hT : KeyT T kv kl ok) (ht : Try.prog.underlying MT = some (.map T BT)) (hz : ∀ w, (zeroValue BT).run Try.prog w = .ok (.bool false) w) {w : World} {b : Nat} {F : K → Bool} {n : Nat} (h : BMap T kl ok w b F n) {x : K} (hx : ok x) :
    (Instr.lookup MT (.map (some b)) (kv x) false).run Try.prog w = .ok (.bool (F x)) w := by
  obtain ⟨D, h1, h2⟩ := h
  obtain ⟨v, ps, e1, e2⟩ := h1.lookup hT.keyed ht (hz w) (boolE_mk false) (hT.key x hx)
  rw [h2 x hx] at e2
  rw [e1, boolE_inv e2]
theorem BMap.put {K : Type} [DecidableEq K] {T MT BT : TypeId} {kv : K → Value} {kl : K → Lit} {ok : K → Prop} (hT : KeyT T kv kl ok) (ht : Try.prog.underlying MT = some (.map T BT)) {w : World} {b : Nat} {F : K → Bool} {n : Nat} (h : BMap T kl ok w b F n) {x : K} (hx : ok x) (hn : n ≤ 1000000) :
    ∃ w', (Instr.mapUpdate MT (.map (some b)) (kv x) (.bool true)).run Try.prog w = .ok () w' ∧ BMap T kl ok w' b (fun y => decide (y = x) || F y) (n + 1) ∧ w.grownBy w' (some b) := by
  obtain ⟨D, h1, h2⟩ := h
  obtain ⟨w', e1, e2, e3⟩ := h1.update hT.keyed ht (by unfold maxLen; omega) (hT.key x hx) (boolE_mk true)
  refine ⟨w', e1, ⟨_, e2, fun y hy => ?_⟩, e3⟩
  dsimp only
  by_cases hj : y = x
  · subst hj; simp only [decide_true, Bool.true_or]; exact atKey_put_same h1.isMap (hT.keyed.key (hT.key y hy)) _ _
  · rw [decide_eq_false hj, Bool.false_or, ← h2 y hy]; exact atKey_put_other (fun e => hj (hT.inj hy hx e)) _ _

theorem zbool (w : World) : (zeroValue 4).run Try.prog w = .ok (.bool false) w := by kernel_rfl

/-- IDs as keys. -/
def kvI (i : Int) : Value := .int .i64 i
def klI (i : Int) : Lit := .int .i64 i
theorem keyI : KeyT 3 kvI klI i64k := ⟨int_keyed (q := .i64) (by kernel_rfl), fun x hx => keyOf_int_mk (by kernel_rfl) (i64_wf hx), fun x y h => by simpa [kvI] using h⟩
theorem umI : Try.prog.underlying 59 = some (.map 3 4) := by kernel_rfl

/-- Pairs as keys. -/
def kvP (p : Pr) : Value := .agg #[.int .i64 p.1, .int .i64 p.2]
def klP (p : Pr) : Lit := .string (keyBytes [.int .i64 p.1, .int .i64 p.2])
def okP (p : Pr) : Prop := i64k p.1 ∧ i64k p.2

theorem keyP_of (p : Pr) (h : okP p) : keyOf Try.prog 44 (kvP p) = some (klP p) := by
  obtain ⟨a, b⟩ := p
  have ha := i64_wf h.1
  have hb := i64_wf h.2
  have hc : Try.prog.cellsOf 3 = 1 := by kernel_rfl
  have hc2 : Try.prog.cellsOf 44 = 2 := by kernel_rfl
  have hk : Try.prog.keyType 44 = true := by kernel_rfl
  have hs : Try.prog.types.size = (Try.prog.types.size - 1) + 1 := by kernel_rfl
  have hf : (kvP (a, b)).formed Try.prog 44 = true := by
    simp [Value.formed, kvP, hc2, Try.underlying44, Try.underlying3]
  have hl : Try.prog.keyLits (Try.prog.types.size + 1) 44 (kvP (a, b)).cells.toList = some [.int .i64 a, .int .i64 b] := by
    rw [hs]
    generalize Try.prog.types.size - 1 = m
    simp only [Program.keyLits, Try.underlying44, kvP, Value.cells, hc2, hc]
    simp [Program.keyLits, Try.underlying3, List.range_succ, ha, hb]
  unfold keyOf
  rw [Try.underlying44]
  simp only [hk, hf, hl, Bool.and_self, if_true]
  rfl

theorem keyP : KeyT 44 kvP klP okP := ⟨Keyed.of_law (deep_law_laid (by kernel_rfl) (m := 2) (by decide) (of_decide_eq_true (by kernel_rfl)) (by kernel_rfl) (by kernel_rfl)), keyP_of, fun x y h => by
  unfold kvP at h
  simp at h
  exact Prod.ext h.1 h.2⟩

theorem umP : Try.prog.underlying 68 = some (.map 44 4) := by kernel_rfl

end Go.Proofs.Ytfhhkabdeajieaa
