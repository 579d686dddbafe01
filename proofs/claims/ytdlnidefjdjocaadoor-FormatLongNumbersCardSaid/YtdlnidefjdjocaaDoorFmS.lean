/- Plain mathematics of fields and lines: the Lean functions that the contracts of chapter 8 speak of, and what its statements say of them. Strings are lists of bytes. No program is imported. -/
import Derived.Test.YtdlnidefjdjocaaDoorByt
set_option linter.unusedVariables false
namespace Go.Proofs.YtdlnidefjdjocaaDoor.Fm
open Go

def isF (s : List Int) : Bool := !s.isEmpty && s.all fun x => decide (33 ≤ x) && decide (x ≤ 126)
theorem isF_iff {s : List Int} : isF s = true ↔ s ≠ [] ∧ ∀ x ∈ s, 33 ≤ x ∧ x ≤ 126 := by simp [isF]
/-- JoinFields. -/
def jn : List (List Int) → List Int
  | [] => []
  | [a] => a
  | a :: b :: r => a ++ 32 :: jn (b :: r)
theorem jn_snoc : ∀ (l : List (List Int)) (f : List Int), l ≠ [] → jn (l ++ [f]) = jn l ++ 32 :: f
  | [], f, h => absurd rfl h
  | [a], f, _ => rfl
  | a :: b :: r, f, _ => by
    have := jn_snoc (b :: r) f (by simp)
    simp only [List.cons_append] at this ⊢
    rw [jn, this, jn]; simp
theorem jn_succ {l : List (List Int)} {k : Nat} (h0 : 0 < k) (h : k < l.length) : jn (l.take (k + 1)) = jn (l.take k) ++ 32 :: l[k] := by
  rw [List.take_add_one, List.getElem?_eq_getElem h]
  exact jn_snoc _ _ (by intro e; have h1 := congrArg List.length e; rw [List.length_take, List.length_nil] at h1; omega)
/-- Fields: what stands in the current field, what is done. -/
def fld : List Int → List Int → List (List Int) → Option (List (List Int))
  | [], cur, out => if isF cur = true then some (out ++ [cur]) else none
  | x :: s, cur, out => if x = 32 then (if isF cur = true then fld s [] (out ++ [cur]) else none) else fld s (cur ++ [x]) out
def fields (s : List Int) : List (List Int) × Int := if s = [] then ([], 0) else match fld s [] [] with | some l => (l, 0) | none => ([], 3)
theorem fld_app : ∀ (f s cur : List Int) (out : List (List Int)), (∀ x ∈ f, x ≠ 32) → fld (f ++ s) cur out = fld s (cur ++ f) out
  | [], s, cur, out, _ => by simp
  | x :: f, s, cur, out, h => by
    rw [List.cons_append, fld, if_neg (h x (List.mem_cons_self ..)), fld_app f s (cur ++ [x]) out fun y hy => h y (List.mem_cons_of_mem _ hy)]
    simp
theorem fld_jn : ∀ (l : List (List Int)) (out : List (List Int)), l ≠ [] → (∀ f ∈ l, isF f = true) → fld (jn l) [] out = some (out ++ l)
  | [], out, h, _ => absurd rfl h
  | [a], out, _, h => by
    have ha := h a (List.mem_cons_self ..)
    have := fld_app a [] [] out fun x hx => by have := (isF_iff.1 ha).2 x hx; omega
    rw [List.append_nil] at this
    rw [jn, this, fld, List.nil_append, if_pos ha]
  | a :: b :: r, out, _, h => by
    have ha := h a (List.mem_cons_self ..)
    rw [jn, fld_app a _ [] out fun x hx => by have := (isF_iff.1 ha).2 x hx; omega]
    rw [fld, if_pos rfl, List.nil_append, if_pos ha, fld_jn (b :: r) (out ++ [a]) (by simp) fun f hf => h f (List.mem_cons_of_mem _ hf)]
    simp
theorem fields_jn {l : List (List Int)} (h : ∀ f ∈ l, isF f = true) : fields (jn l) = (l, 0) := by
  cases l with
  | nil => rfl
  | cons a r =>
    have hne : jn (a :: r) ≠ [] := by
      have ha := (isF_iff.1 (h a (List.mem_cons_self ..))).1
      cases r with
      | nil => exact ha
      | cons b r => rw [jn]; simp [ha]
    unfold fields
    rw [if_neg hne, fld_jn (a :: r) [] (by simp) h]
    rfl
/-- How much there is to keep. -/
theorem fld_len : ∀ (s cur : List Int) (out l : List (List Int)), fld s cur out = some l → l.length ≤ out.length + s.length + 1
  | [], cur, out, l, h => by
    rw [fld] at h; split at h
    · simp only [Option.some.injEq] at h; rw [← h]; simp
    · cases h
  | x :: s, cur, out, l, h => by
    rw [fld] at h
    split at h
    · split at h
      · have := fld_len s [] (out ++ [cur]) l h; simp at this ⊢; omega
      · cases h
    · have := fld_len s (cur ++ [x]) out l h; simp; omega

/-- SplitLines. -/
def spl : List Int → List Int → List (List Int) → Option (List (List Int))
  | [], cur, out => if cur = [] then some out else none
  | x :: s, cur, out => if x = 10 then spl s [] (out ++ [cur]) else spl s (cur ++ [x]) out
def lines (s : List Int) : List (List Int) × Int := match spl s [] [] with | some l => (l, 0) | none => ([], 3)
def glue : List (List Int) → List Int
  | [] => []
  | l :: r => l ++ 10 :: glue r
theorem glue_append : ∀ a b : List (List Int), glue (a ++ b) = glue a ++ glue b
  | [], b => rfl
  | l :: r, b => by simp [glue, glue_append r b]
theorem glue_succ {l : List (List Int)} {k : Nat} (h : k < l.length) : glue (l.take (k + 1)) = glue (l.take k) ++ l[k] ++ [10] := by
  rw [List.take_add_one, List.getElem?_eq_getElem h, glue_append]; simp [glue]
theorem spl_some : ∀ (s cur : List Int) (out l : List (List Int)), spl s cur out = some l → (∀ x ∈ cur, x ≠ 10) → ∃ m, l = out ++ m ∧ glue m = cur ++ s ∧ ∀ y ∈ m, ∀ x ∈ y, x ≠ 10
  | [], cur, out, l, h, hc => by
    rw [spl] at h
    split at h
    · rename_i e; subst e
      simp only [Option.some.injEq] at h
      exact ⟨[], by simp [h], rfl, by simp⟩
    · cases h
  | x :: s, cur, out, l, h, hc => by
    rw [spl] at h
    split at h
    · rename_i e; subst e
      obtain ⟨m, h1, h2, h3⟩ := spl_some s [] (out ++ [cur]) l h (by simp)
      refine ⟨cur :: m, by rw [h1]; simp, by simp [glue, h2], fun y hy => ?_⟩
      rcases List.mem_cons.1 hy with rfl | hy
      · exact hc
      · exact h3 y hy
    · rename_i e
      obtain ⟨m, h1, h2, h3⟩ := spl_some s (cur ++ [x]) out l h fun y hy => by
        rcases List.mem_append.1 hy with hy | hy
        · exact hc y hy
        · simp at hy; rw [hy]; exact e
      exact ⟨m, h1, by rw [h2]; simp, h3⟩
theorem spl_none : ∀ (s cur : List Int) (out : List (List Int)), spl s cur out = none → (∀ x ∈ cur, x ≠ 10) → ∃ x, (cur ++ s).getLast? = some x ∧ x ≠ 10
  | [], cur, out, h, hc => by
    rw [spl] at h
    split at h
    · cases h
    · rename_i e
      rw [List.append_nil, List.getLast?_eq_some_getLast e]
      exact ⟨_, rfl, hc _ (List.getLast_mem e)⟩
  | x :: s, cur, out, h, hc => by
    rw [spl] at h
    split at h
    · rename_i e; subst e
      obtain ⟨z, h1, h2⟩ := spl_none s [] (out ++ [cur]) h (by simp)
      refine ⟨z, ?_, h2⟩
      rw [List.nil_append] at h1
      rw [List.getLast?_append, List.getLast?_cons, h1]; simp
    · rename_i e
      obtain ⟨z, h1, h2⟩ := spl_none s (cur ++ [x]) out h fun y hy => by
        rcases List.mem_append.1 hy with hy | hy
        · exact hc y hy
        · simp at hy; rw [hy]; exact e
      exact ⟨z, by rw [← h1]; simp, h2⟩
theorem spl_len : ∀ (s cur : List Int) (out l : List (List Int)), spl s cur out = some l → l.length ≤ out.length + s.length
  | [], cur, out, l, h => by
    rw [spl] at h; split at h
    · simp only [Option.some.injEq] at h; rw [← h]; simp
    · cases h
  | x :: s, cur, out, l, h => by
    rw [spl] at h
    split at h
    · have := spl_len s [] (out ++ [cur]) l h; simp at this ⊢; omega
    · have := spl_len s (cur ++ [x]) out l h; simp; omega

/-- IsIdentifier. -/
def isL (x : Int) : Bool := decide (97 ≤ x) && decide (x ≤ 122)
def isX (x : Int) : Bool := isL x || decide (x = 45) || (decide (48 ≤ x) && decide (x ≤ 57))
def idt (s : List Int) : Bool := decide (1 ≤ s.length) && decide (s.length ≤ 24) && (s.head?.map isL).getD false && s.all isX

end Go.Proofs.YtdlnidefjdjocaaDoor.Fm
