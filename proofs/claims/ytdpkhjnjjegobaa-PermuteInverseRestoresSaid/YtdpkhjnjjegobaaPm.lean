/- Plain mathematics of pseudo-random numbers and permutations: the Lean functions that the contracts of package permute and of its reference speak of, and what the statements of chapter 6 say of them. No program is imported. -/
import Derived.Test.YtdpkhjnjjegobaaRow
import Derived.Laws.Closers25b
set_option linter.unusedVariables false
namespace Go.Proofs.Ytdpkhjnjjegobaa.Pm
open Go

abbrev U (n : Int) : Int := IntKind.u64.wrap n
def xr (a b : Int) : Int := bits BinOp.xor IntKind.u64 a b
def nt (s : Int) : Int := U (U (6364136223846793005 * s) + 1442695040888963407)
def nu (t : Int) : Int := U (xr t (t / 536870912) * 2685821657736338717)
def nv (s : Int) : Int := xr (nu (nt s)) (nu (nt s) / 4294967296)

theorem U_in (n : Int) : 0 ≤ U n ∧ U n < 18446744073709551616 := by
  unfold U; simp [IntKind.wrap, IntKind.bits, IntKind.signed]; omega
theorem U_id {n : Int} (h0 : 0 ≤ n) (h1 : n < 18446744073709551616) : U n = n := by
  unfold U; simp [IntKind.wrap, IntKind.bits, IntKind.signed]; omega
theorem U_tdiv {n : Int} (h0 : 0 ≤ n) (h1 : n < 18446744073709551616) (k : Int) (hk : 1 ≤ k) : U (n.tdiv k) = n / k := by
  rw [Int.tdiv_eq_ediv_of_nonneg h0]
  have g1 : 0 ≤ n / k := Int.ediv_nonneg h0 (by omega)
  have g2 : n / k ≤ n := Int.ediv_le_self k h0
  exact U_id g1 (by omega)

theorem xr_in (a b : Int) : 0 ≤ xr a b ∧ xr a b < 18446744073709551616 := by
  have := bits_within .xor .u64 a b
  simp [IntKind.min, IntKind.max, IntKind.bits, IntKind.signed] at this
  unfold xr; omega
theorem nt_in (s : Int) : 0 ≤ nt s ∧ nt s < 18446744073709551616 := U_in _
theorem nv_in (s : Int) : 0 ≤ nv s ∧ nv s < 18446744073709551616 := xr_in _ _
/-- The reference divides where the text shifts. -/
theorem nt_div (s : Int) : U ((nt s).tdiv 536870912) = nt s / 536870912 := U_tdiv (nt_in s).1 (nt_in s).2 _ (by omega)
theorem nu_div (t : Int) : U ((nu t).tdiv 4294967296) = nu t / 4294967296 := U_tdiv (U_in _).1 (U_in _).2 _ (by omega)

/-- Intn. -/
def ik (n s : Int) : Int := if n < 1 then 0 else nv s % n
def is' (n s : Int) : Int := if n < 1 then s else nt s
theorem ik_in {n s : Int} (h : 1 ≤ n) : 0 ≤ ik n s ∧ ik n s < n := by
  unfold ik; rw [if_neg (by omega)]
  exact ⟨Int.emod_nonneg _ (by omega), Int.emod_lt_of_pos _ (by omega)⟩

/-- The numbers below n. -/
def rng (n : Nat) : List Int := (List.range n).map fun i : Nat => (i : Int)
@[simp] theorem rng_length (n : Nat) : (rng n).length = n := by simp [rng]
theorem rng_get (n i : Nat) (h : i < (rng n).length) : (rng n)[i] = i := by simp [rng]
theorem mem_rng {n : Nat} {x : Int} : x ∈ rng n ↔ 0 ≤ x ∧ x < n := by
  simp only [rng, List.mem_map, List.mem_range]
  exact ⟨fun ⟨i, hi, e⟩ => by omega, fun ⟨h0, h1⟩ => ⟨x.toNat, by omega, by omega⟩⟩
theorem rng_nodup (n : Nat) : (rng n).Nodup := by
  unfold rng
  rw [List.nodup_iff_pairwise_ne, List.pairwise_map]
  exact List.Pairwise.imp (fun {a b} (h : a < b) => by omega) List.pairwise_lt_range

theorem perm_split : ∀ {L xs : List Int}, L.Nodup → (∀ a ∈ L, a ∈ xs) → ∃ r, xs.Perm (L ++ r)
  | [], xs, _, _ => ⟨xs, List.Perm.refl _⟩
  | a :: L, xs, hn, hs => by
    obtain ⟨ha, hn'⟩ := List.nodup_cons.1 hn
    have h1 : xs.Perm (a :: xs.erase a) := List.perm_cons_erase (hs a (List.mem_cons_self ..))
    obtain ⟨r, hr⟩ := perm_split (xs := xs.erase a) hn' fun b hb => by
      have hne : b ≠ a := fun e => ha (e ▸ hb)
      exact (List.mem_erase_of_ne hne).2 (hs b (List.mem_cons_of_mem _ hb))
    exact ⟨r, h1.trans (List.Perm.cons a hr)⟩
theorem perm_of {L xs : List Int} (hn : L.Nodup) (hs : ∀ a ∈ L, a ∈ xs) (hl : L.length = xs.length) : xs.Perm L := by
  obtain ⟨r, hr⟩ := perm_split hn hs
  have h1 := hr.length_eq
  rw [List.length_append] at h1
  have : r = [] := List.eq_nil_of_length_eq_zero (by omega)
  subst this
  simpa using hr

/-- Every number below the length occurs. -/
def isPerm (xs : List Int) : Bool := decide (∀ i, i < xs.length → (i : Int) ∈ xs)
theorem isPerm_iff {xs : List Int} : isPerm xs = true ↔ xs.Perm (rng xs.length) := by
  simp only [isPerm, decide_eq_true_eq]
  constructor
  · intro h
    exact perm_of (rng_nodup _) (fun a ha => by obtain ⟨h0, h1⟩ := mem_rng.1 ha; have := h a.toNat (by omega); rwa [Int.toNat_of_nonneg h0] at this) (by simp)
  · intro h i hi
    exact h.mem_iff.2 (mem_rng.2 ⟨by omega, by omega⟩)
theorem isPerm_in {xs : List Int} (h : isPerm xs = true) {x : Int} (hx : x ∈ xs) : 0 ≤ x ∧ x < xs.length := mem_rng.1 ((isPerm_iff.1 h).mem_iff.1 hx)
theorem isPerm_nodup {xs : List Int} (h : isPerm xs = true) : xs.Nodup := (isPerm_iff.1 h).nodup_iff.2 (rng_nodup _)
theorem isPerm_of {xs : List Int} (h1 : ∀ x ∈ xs, 0 ≤ x ∧ x < xs.length) (h2 : xs.Nodup) : isPerm xs = true :=
  isPerm_iff.2 (perm_of h2 (fun a ha => mem_rng.2 (h1 a ha)) (by simp)).symm
theorem isPerm_out {xs : List Int} {x : Int} (hx : x ∈ xs) (h : ¬ (0 ≤ x ∧ x < xs.length)) : isPerm xs = false := by
  cases h' : isPerm xs with
  | false => rfl
  | true => exact absurd (isPerm_in h' hx) h
theorem nodup_take_succ {xs : List Int} {k : Nat} (hk : k < xs.length) (h : (xs.take k).Nodup) (hx : xs[k] ∉ xs.take k) : (xs.take (k + 1)).Nodup := by
  rw [List.take_add_one, List.getElem?_eq_getElem hk]
  simp only [Option.toList]
  rw [List.nodup_append]
  exact ⟨h, by simp, fun a ha b hb => by simp at hb; subst hb; exact fun e => hx (e ▸ ha)⟩
theorem isPerm_twice {xs : List Int} {k : Nat} (hk : k < xs.length) (hx : xs[k] ∈ xs.take k) : isPerm xs = false := by
  cases h' : isPerm xs with
  | false => rfl
  | true =>
    have hn := isPerm_nodup h'
    obtain ⟨j, hj, e⟩ := List.getElem_of_mem hx
    rw [List.length_take] at hj
    rw [List.getElem_take] at e
    have := (List.nodup_iff_pairwise_ne.1 hn)
    have h2 := List.pairwise_iff_getElem.1 this j k (by omega) hk (by omega)
    exact absurd e h2

/-- Which numbers have been seen among the first k. -/
def marks (xs : List Int) (n k : Nat) : List Bool := (List.range n).map fun j : Nat => decide ((j : Int) ∈ xs.take k)
@[simp] theorem marks_length (xs : List Int) (n k : Nat) : (marks xs n k).length = n := by simp [marks]
theorem marks_get (xs : List Int) (n k j : Nat) (h : j < (marks xs n k).length) : (marks xs n k)[j] = decide ((j : Int) ∈ xs.take k) := by simp [marks]
theorem marks_zero (xs : List Int) (n : Nat) : marks xs n 0 = List.replicate n false := by
  apply List.ext_getElem
  · simp
  · intro j h1 h2; simp [marks]
theorem mem_take_succ {xs : List Int} {k : Nat} (hk : k < xs.length) {x : Int} : x ∈ xs.take (k + 1) ↔ x ∈ xs.take k ∨ x = xs[k] := by
  rw [List.take_add_one, List.getElem?_eq_getElem hk]; simp only [Option.toList, List.mem_append, List.mem_singleton]
theorem marks_succ (xs : List Int) (n k : Nat) (hk : k < xs.length) (h0 : 0 ≤ xs[k]) : marks xs n (k + 1) = (marks xs n k).set xs[k].toNat true := by
  apply List.ext_getElem
  · simp
  · intro j h1 h2
    rw [List.getElem_set, marks_get]
    by_cases hj : xs[k].toNat = j
    · rw [if_pos hj, decide_eq_true_eq, mem_take_succ hk]; right; omega
    · rw [if_neg hj, marks_get, decide_eq_decide, mem_take_succ hk]
      exact ⟨fun h => h.resolve_right (by omega), .inl⟩

/-- The first index at which a number stands, or -1. -/
def ix (xs : List Int) (v : Int) : Int := match xs.findIdx? (· == v) with | some i => i | none => -1
theorem ix_at {xs : List Int} {v : Int} {k : Nat} (hk : k < xs.length) (hx : xs[k] = v) (h : v ∉ xs.take k) : ix xs v = k := by
  have : xs.findIdx? (· == v) = some k := by
    rw [List.findIdx?_eq_some_iff_getElem]
    refine ⟨hk, by simp [hx], fun j hj => ?_⟩
    simp only [Bool.not_eq_true, beq_eq_false_iff_ne]
    intro e
    exact h (by rw [← e]; exact List.mem_iff_getElem.2 ⟨j, by rw [List.length_take]; omega, by simp⟩)
  simp [ix, this]
theorem ix_none {xs : List Int} {v : Int} (h : v ∉ xs) : ix xs v = -1 := by
  have : xs.findIdx? (· == v) = none := by
    rw [List.findIdx?_eq_none_iff]
    intro x hx
    simp only [beq_eq_false_iff_ne]
    exact fun e => h (e ▸ hx)
  simp [ix, this]
theorem ix_some {xs : List Int} {v : Int} (h : v ∈ xs) : ∃ k : Nat, ∃ hk : k < xs.length, xs[k] = v ∧ ix xs v = k := by
  cases hf : xs.findIdx? (· == v) with
  | none =>
    rw [List.findIdx?_eq_none_iff] at hf
    have := hf v h
    simp at this
  | some k =>
    have hf' := hf
    rw [List.findIdx?_eq_some_iff_getElem] at hf
    obtain ⟨hk, h1, _⟩ := hf
    exact ⟨k, hk, by simpa using h1, by simp [ix, hf']⟩
theorem ix_neg {xs : List Int} {v : Int} : ix xs v < 0 ↔ v ∉ xs := by
  constructor
  · intro h hv
    obtain ⟨k, _, _, e⟩ := ix_some hv
    omega
  · intro h; rw [ix_none h]; omega

/-- The inverse; the items in this order; both for permutations alone. -/
def inv (xs : List Int) : List Int := if isPerm xs then (rng xs.length).map (ix xs) else []
def app {α : Type} (d : α) (ls : List α) (xs : List Int) : List α := if isPerm xs && ls.length == xs.length then xs.map fun i => ls.getD i.toNat d else []
def comp (a b : List Int) : List Int := if isPerm a then app 0 a b else []

/-- Two items exchanged; the shuffle from index i down. -/
def swp (l : List Int) (i j : Nat) : List Int := (l.set i (l.getD j 0)).set j (l.getD i 0)
theorem swp_length (l : List Int) (i j : Nat) : (swp l i j).length = l.length := by simp [swp]
def shuf : Nat → List Int → Int → List Int × Int
  | 0, l, s => (l, s)
  | i + 1, l, s => shuf i (swp l (i + 1) (ik ((i : Int) + 1 + 1) s).toNat) (is' ((i : Int) + 1 + 1) s)
theorem shuf_length : ∀ (i : Nat) (l : List Int) (s : Int), (shuf i l s).1.length = l.length
  | 0, l, s => rfl
  | i + 1, l, s => by rw [shuf, shuf_length, swp_length]
def perm (n s : Int) : List Int × Int := if n < 0 ∨ 4096 < n then ([], s) else shuf (n.toNat - 1) (rng n.toNat) s

/-- The inverse as far as the first k items tell it. -/
def invk (xs : List Int) (n k : Nat) : List Int := (List.range n).map fun p : Nat => if (p : Int) ∈ xs.take k then ix xs p else 0
@[simp] theorem invk_length (xs : List Int) (n k : Nat) : (invk xs n k).length = n := by simp [invk]
theorem invk_zero (xs : List Int) (n : Nat) : invk xs n 0 = List.replicate n 0 := by
  apply List.ext_getElem
  · simp
  · intro j h1 h2; simp [invk]
theorem take_fresh {xs : List Int} {k : Nat} (hk : k < xs.length) (hn : xs.Nodup) : xs[k] ∉ xs.take k := fun h => by
  obtain ⟨j, hj, e⟩ := List.getElem_of_mem h
  rw [List.length_take] at hj
  rw [List.getElem_take] at e
  exact (List.pairwise_iff_getElem.1 (List.nodup_iff_pairwise_ne.1 hn) j k (by omega) hk (by omega)) e
theorem ix_get {xs : List Int} {k : Nat} (hk : k < xs.length) (hn : xs.Nodup) : ix xs xs[k] = k := ix_at hk rfl (take_fresh hk hn)
theorem invk_succ (xs : List Int) (n k : Nat) (hk : k < xs.length) (hn : xs.Nodup) (h0 : 0 ≤ xs[k]) : invk xs n (k + 1) = (invk xs n k).set xs[k].toNat k := by
  apply List.ext_getElem
  · simp
  · intro j h1 h2
    rw [List.getElem_set]
    simp only [invk, List.getElem_map, List.getElem_range]
    by_cases hj : xs[k].toNat = j
    · rw [if_pos hj, if_pos ((mem_take_succ hk).2 (.inr (by omega))), show (j : Int) = xs[k] from by omega, ix_get hk hn]
    · rw [if_neg hj]
      have : (j : Int) ∈ xs.take (k + 1) ↔ (j : Int) ∈ xs.take k := by
        rw [mem_take_succ hk]; exact ⟨fun h => h.resolve_right (by omega), .inl⟩
      simp only [this]
theorem invk_all {xs : List Int} (h : isPerm xs = true) : invk xs xs.length xs.length = (rng xs.length).map (ix xs) := by
  apply List.ext_getElem
  · simp
  · intro j h1 h2
    have hj : j < xs.length := by simpa using h1
    have hm : (j : Int) ∈ xs := of_decide_eq_true h j hj
    simp [invk, rng, List.take_length, hm]
/-- A list filled from its head: the first k of n items are as told, the others d. -/
def fillk {α : Type} (d : α) (f : Nat → α) (n k : Nat) : List α := (List.range n).map fun p => if p < k then f p else d
@[simp] theorem fillk_length {α : Type} (d : α) (f : Nat → α) (n k : Nat) : (fillk d f n k).length = n := by simp [fillk]
theorem fillk_zero {α : Type} (d : α) (f : Nat → α) (n : Nat) : fillk d f n 0 = List.replicate n d := by
  apply List.ext_getElem
  · simp
  · intro j h1 h2; simp [fillk]
theorem fillk_succ {α : Type} (d : α) (f : Nat → α) (n k : Nat) : fillk d f n (k + 1) = (fillk d f n k).set k (f k) := by
  apply List.ext_getElem
  · simp
  · intro j h1 h2
    rw [List.getElem_set]
    simp only [fillk, List.getElem_map, List.getElem_range]
    by_cases hj : k = j
    · subst hj; simp
    · rw [if_neg hj]
      by_cases h : j < k
      · rw [if_pos h, if_pos (by omega)]
      · rw [if_neg h, if_neg (by omega)]
theorem fillk_all {α : Type} (d : α) (f : Nat → α) (n : Nat) : fillk d f n n = (List.range n).map f := by
  apply List.ext_getElem
  · simp
  · intro j h1 h2
    have : j < n := by simpa using h1
    simp [fillk, this]
theorem app_range {α : Type} (d : α) (ls : List α) (xs : List Int) : ((List.range xs.length).map fun p => ls.getD (xs.getD p 0).toNat d) = xs.map fun i => ls.getD i.toNat d := by
  apply List.ext_getElem
  · simp
  · intro j h1 h2
    have : j < xs.length := by simpa using h1
    simp [this]

end Go.Proofs.Ytdpkhjnjjegobaa.Pm
