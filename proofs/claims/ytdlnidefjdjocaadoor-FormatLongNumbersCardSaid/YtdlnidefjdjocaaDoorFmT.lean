/- Plain mathematics of chapter 8, the loops' own: the rest modulo One, fields and lines as a loop's round sees them, lists of strings. No program is imported. -/
import Derived.Test.YtdlnidefjdjocaaDoorFmL
import Derived.Test.YtdlnidefjdjocaaDoorFmS
set_option linter.unusedVariables false
namespace Go.Proofs.YtdlnidefjdjocaaDoor.Fm
open Go

theorem drop_cons {s : List Int} {k : Nat} (h : k < s.length) : s.drop k = s[k] :: s.drop (k + 1) := List.drop_eq_getElem_cons h
/-- The part [i, k) of a list grows by one. -/
def prt (s : List Int) (i k : Nat) : List Int := (s.drop i).take (k - i)
theorem prt_same (s : List Int) (i : Nat) : prt s i i = [] := by simp [prt]
theorem prt_succ {s : List Int} {i k : Nat} (hi : i ≤ k) (hk : k < s.length) : prt s i (k + 1) = prt s i k ++ [s[k]] := by
  unfold prt
  rw [show k + 1 - i = (k - i) + 1 from by omega, List.take_add_one, List.getElem?_drop, show i + (k - i) = k from by omega, List.getElem?_eq_getElem hk]
  rfl
theorem prt_length {s : List Int} {i k : Nat} (hi : i ≤ k) (hk : k ≤ s.length) : (prt s i k).length = k - i := by
  unfold prt; rw [List.length_take, List.length_drop]; omega
theorem prt_nil {s : List Int} {i k : Nat} (hi : i ≤ k) (hk : k ≤ s.length) : prt s i k = [] ↔ i = k := by
  constructor
  · intro h; have := prt_length hi hk; rw [h] at this; simp at this; omega
  · rintro rfl; exact prt_same _ _
theorem prt_isB {s : List Int} (h : isB s) (i k : Nat) : isB (prt s i k) := isB_take (isB_drop h _) _

theorem fld_end (cur : List Int) (out : List (List Int)) : fld [] cur out = if isF cur = true then some (out ++ [cur]) else none := rfl
theorem fld_space (s cur : List Int) (out : List (List Int)) : fld (32 :: s) cur out = if isF cur = true then fld s [] (out ++ [cur]) else none := by rw [fld, if_pos rfl]
theorem fld_other {x : Int} (h : x ≠ 32) (s cur : List Int) (out : List (List Int)) : fld (x :: s) cur out = fld s (cur ++ [x]) out := by rw [fld, if_neg h]
theorem spl_end (cur : List Int) (out : List (List Int)) : spl [] cur out = if cur = [] then some out else none := rfl
theorem spl_feed (s cur : List Int) (out : List (List Int)) : spl (10 :: s) cur out = spl s [] (out ++ [cur]) := by rw [spl, if_pos rfl]
theorem spl_other {x : Int} (h : x ≠ 10) (s cur : List Int) (out : List (List Int)) : spl (x :: s) cur out = spl s (cur ++ [x]) out := by rw [spl, if_neg h]

/-- The strings of lists of bytes, and back. -/
def strs (l : List (List Int)) : List ByteArray := l.map strOfNums
def numss (l : List ByteArray) : List (List Int) := l.map nums
@[simp] theorem strs_length (l : List (List Int)) : (strs l).length = l.length := by simp [strs]
theorem strs_append (a b : List (List Int)) : strs (a ++ b) = strs a ++ strs b := by simp [strs]
theorem strs_numss (l : List ByteArray) : strs (numss l) = l := by
  simp only [strs, numss, List.map_map]
  refine (List.map_congr_left fun x _ => ?_).trans (List.map_id _)
  exact of_nums x
theorem fld_isB : ∀ (s cur : List Int) (out l : List (List Int)), isB s → isB cur → (∀ x ∈ out, isB x) → fld s cur out = some l → ∀ x ∈ l, isB x
  | [], cur, out, l, hs, hc, ho, h => by
    rw [fld_end] at h; split at h
    · simp only [Option.some.injEq] at h; subst h
      intro x hx; rcases List.mem_append.1 hx with hx | hx
      · exact ho x hx
      · simp at hx; subst hx; exact hc
    · cases h
  | y :: s, cur, out, l, hs, hc, ho, h => by
    have hs' : isB s := fun x hx => hs x (List.mem_cons_of_mem _ hx)
    by_cases hy : y = 32
    · subst hy; rw [fld_space] at h; split at h
      · refine fld_isB s [] _ l hs' (by intro x hx; cases hx) (fun x hx => ?_) h
        rcases List.mem_append.1 hx with hx | hx
        · exact ho x hx
        · simp at hx; subst hx; exact hc
      · cases h
    · rw [fld_other hy] at h
      refine fld_isB s _ _ l hs' (fun x hx => ?_) ho h
      rcases List.mem_append.1 hx with hx | hx
      · exact hc x hx
      · simp at hx; subst hx; exact hs _ (List.mem_cons_self ..)
/-- How long joined fields are. -/
theorem jn_len (c : Nat) : ∀ l : List (List Int), (∀ f ∈ l, f.length ≤ c) → (jn l).length ≤ l.length * (c + 1)
  | [], _ => by simp [jn]
  | [a], h => by have := h a (List.mem_cons_self ..); simp [jn]; omega
  | a :: b :: r, h => by
    have ha := h a (List.mem_cons_self ..)
    have := jn_len c (b :: r) fun f hf => h f (List.mem_cons_of_mem _ hf)
    rw [jn, List.length_append, List.length_cons, List.length_cons (as := b :: r), Nat.succ_mul]; omega
theorem jn_isB : ∀ l : List (List Int), (∀ f ∈ l, isB f) → isB (jn l)
  | [], _ => by intro x hx; cases hx
  | [a], h => h a (List.mem_cons_self ..)
  | a :: b :: r, h => by
    have := jn_isB (b :: r) fun f hf => h f (List.mem_cons_of_mem _ hf)
    rw [jn]; intro x hx
    rcases List.mem_append.1 hx with hx | hx
    · exact h a (List.mem_cons_self ..) x hx
    · rcases List.mem_cons.1 hx with rfl | hx
      · omega
      · exact this x hx
theorem glue_len : ∀ (l : List (List Int)) (k : Nat), (glue (l.take k)).length ≤ (glue l).length
  | [], k => by simp [glue]
  | a :: r, 0 => by simp [glue]
  | a :: r, k + 1 => by have := glue_len r k; simp [glue]; omega

/-- The rest modulo One, digit by digit. -/
theorem rest_step {m : Nat} {x : Int} (h0 : 48 ≤ x) (h1 : x ≤ 57) : (10 * ((m % 65536 : Nat) : Int) + x - 48).tmod 65536 = (((10 * m + (x - 48).toNat) % 65536 : Nat) : Int) := by
  rw [Int.tmod_eq_emod_of_nonneg (by omega)]; omega

/-- Whether a list of bytes is a field, byte by byte. -/
theorem isF_of {s : List Int} (h0 : s ≠ []) (h : ∀ j (h : j < s.length), 33 ≤ s[j] ∧ s[j] ≤ 126) : isF s = true :=
  isF_iff.2 ⟨h0, fun x hx => by obtain ⟨j, hj, rfl⟩ := List.mem_iff_getElem.1 hx; exact h j hj⟩
theorem isF_no {s : List Int} {x : Int} (hx : x ∈ s) (h : ¬ (33 ≤ x ∧ x ≤ 126)) : isF s = false := by
  rw [Bool.eq_false_iff]; intro e; exact h ((isF_iff.1 e).2 x hx)
theorem idt_iff {s : List Int} : idt s = true ↔ 1 ≤ s.length ∧ s.length ≤ 24 ∧ (∀ h : 0 < s.length, isL s[0] = true) ∧ ∀ x ∈ s, isX x = true := by
  unfold idt
  cases s with
  | nil => simp
  | cons y r => simp [and_assoc]
theorem isL_iff {x : Int} : isL x = true ↔ 97 ≤ x ∧ x ≤ 122 := by simp [isL]
theorem isX_iff {x : Int} : isX x = true ↔ (97 ≤ x ∧ x ≤ 122) ∨ x = 45 ∨ (48 ≤ x ∧ x ≤ 57) := by simp [isX, isL, or_assoc]

end Go.Proofs.YtdlnidefjdjocaaDoor.Fm
