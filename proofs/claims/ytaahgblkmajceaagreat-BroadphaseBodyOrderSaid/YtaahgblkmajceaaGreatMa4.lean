/- Plain mathematics of convex hulls: when a segment between two points is an edge of the hull of a list of points, that edges follow one another in one way only, and what a list of corners is. No program is imported.
Plain mathematics of convex hulls, continued: the list of a hull's corners is the only one of its kind; its corners are different, it is strictly convex, and it is its own hull.
Plain mathematics of convex hulls, continued: the monotone chain over points in rising order gives edges of the hull.
Plain mathematics of convex hulls, continued: the two monotone chains together are the hull's list of corners; points in rising order; the hull of points that do not lie on one line exists.
Plain mathematics of polygons: the Lean functions that the contracts of package polygon and of its reference speak of. No program is imported.
The unit square of the examples. No program is imported. -/
import Derived.Test.YtaahgblkmajceaaGreatMa1
import Derived.Test.YtaahgblkmajceaaGreatMa2

set_option linter.unusedVariables false
namespace Go.Proofs.YtaahgblkmajceaaGreat.Fx

abbrev Pt := Int × Int
/-- Twice the area of a triangle, with its sign; the square of a distance. -/
def dt (a b c : Pt) : Int := (b.1 - a.1) * (c.2 - a.2) - (b.2 - a.2) * (c.1 - a.1)
def d2 (a b : Pt) : Int := (b.1 - a.1) * (b.1 - a.1) + (b.2 - a.2) * (b.2 - a.2)
theorem dt_self (a b : Pt) : dt a b b = 0 := by unfold dt; grind
theorem dt_first (a b : Pt) : dt a b a = 0 := by unfold dt; simp
theorem dt_swap (a b c : Pt) : dt a c b = -dt a b c := by unfold dt; grind
theorem sq_nonneg' (x : Int) : 0 ≤ x * x := by
  rcases (by omega : 0 ≤ x ∨ x ≤ 0) with h | h
  · exact Int.mul_nonneg h h
  · exact Int.mul_nonneg_of_nonpos_of_nonpos h h
theorem sq_pos' {x : Int} (h : x ≠ 0) : 0 < x * x := by
  rcases (by omega : 0 < x ∨ x < 0) with h | h
  · exact Int.mul_pos h h
  · exact Int.mul_pos_of_neg_of_neg h h
theorem sq_zero {x : Int} (h : x * x = 0) : x = 0 := (Int.mul_eq_zero.1 h).elim id id
theorem d2_nn (a b : Pt) : 0 ≤ d2 a b := by
  have h1 := sq_nonneg' (b.1 - a.1); have h2 := sq_nonneg' (b.2 - a.2)
  unfold d2; omega
theorem d2_zero {a b : Pt} (h : d2 a b = 0) : a = b := by
  have h1 := sq_nonneg' (b.1 - a.1); have h2 := sq_nonneg' (b.2 - a.2)
  have e1 : (b.1 - a.1) * (b.1 - a.1) = 0 := by unfold d2 at h; omega
  have e2 : (b.2 - a.2) * (b.2 - a.2) = 0 := by unfold d2 at h; omega
  have f1 := sq_zero e1
  have f2 := sq_zero e2
  exact Prod.ext (by omega) (by omega)
theorem d2_pos {a b : Pt} (h : a ≠ b) : 0 < d2 a b := by
  have := d2_nn a b
  rcases (by omega : d2 a b = 0 ∨ 0 < d2 a b) with e | e
  · exact absurd (d2_zero e) h
  · exact e
theorem d2_self (a : Pt) : d2 a a = 0 := by unfold d2; simp

/-- Three points of a line. -/
theorem col_line {a b x y z : Pt} (h : a ≠ b) (hx : dt a b x = 0) (hy : dt a b y = 0) (hz : dt a b z = 0) : dt x y z = 0 := by
  by_cases h1 : b.1 - a.1 = 0
  · have h2 : b.2 - a.2 ≠ 0 := fun e => h (Prod.ext (by omega) (by omega))
    have k : (b.2 - a.2) * dt x y z = 0 := by unfold dt at *; grind
    exact (Int.mul_eq_zero.1 k).resolve_left h2
  · have k : (b.1 - a.1) * dt x y z = 0 := by unfold dt at *; grind
    exact (Int.mul_eq_zero.1 k).resolve_left h1

/-- The way from p to q has all points on its left or on itself. -/
def Ed (S : List Pt) (p q : Pt) : Prop := p ∈ S ∧ q ∈ S ∧ q ≠ p ∧ ∀ r ∈ S, 0 < dt p q r ∨ (dt p q r = 0 ∧ d2 p r ≤ d2 p q)
instance (S : List Pt) (p q : Pt) : Decidable (Ed S p q) := by unfold Ed; exact inferInstance
theorem Ed.nn {S : List Pt} {p q r : Pt} (h : Ed S p q) (hr : r ∈ S) : 0 ≤ dt p q r := by
  rcases h.2.2.2 r hr with h | h <;> omega
/-- The points do not lie on one line. -/
def ncol (S : List Pt) : Prop := ∀ a ∈ S, ∀ b ∈ S, a ≠ b → ∃ r ∈ S, dt a b r ≠ 0
theorem Ed.sub {S T : List Pt} {p q : Pt} (h : Ed S p q) (hT : ∀ x ∈ T, x ∈ S) (hp : p ∈ T) (hq : q ∈ T) : Ed T p q := ⟨hp, hq, h.2.2.1, fun r hr => h.2.2.2 r (hT r hr)⟩

theorem sq_eq {x y : Int} (h : x * x = y * y) : x = y ∨ x = -y := by
  have : (x - y) * (x + y) = 0 := by grind
  rcases Int.mul_eq_zero.1 this with h | h
  · exact .inl (by omega)
  · exact .inr (by omega)
/-- An edge has one end. -/
theorem Ed.unique {S : List Pt} {p q q' : Pt} (hn : ncol S) (h : Ed S p q) (h' : Ed S p q') : q = q' := by
  have n1 := h.nn h'.2.1
  have n2 := h'.nn h.2.1
  rw [dt_swap] at n2
  have e0 : dt p q q' = 0 := by omega
  have l1 : d2 p q' ≤ d2 p q := by rcases h.2.2.2 q' h'.2.1 with k | k <;> omega
  have l2 : d2 p q ≤ d2 p q' := by
    rcases h'.2.2.2 q h.2.1 with k | k
    · rw [dt_swap] at k; omega
    · exact k.2
  have el : d2 p q = d2 p q' := by omega
  obtain ⟨s, hs⟩ : ∃ s, (q.1 - p.1) * (q'.1 - p.1) + (q.2 - p.2) * (q'.2 - p.2) = s := ⟨_, rfl⟩
  have hq : s * s = d2 p q * d2 p q := by
    have : s * s + dt p q q' * dt p q q' = d2 p q * d2 p q' := by rw [← hs]; unfold dt d2; grind
    rw [e0] at this; rw [← el] at this; omega
  rcases sq_eq hq with e | e
  · have : d2 q q' = 0 := by
      have k : d2 q q' = d2 p q + d2 p q' - 2 * s := by rw [← hs]; unfold d2; grind
      omega
    exact d2_zero this
  · exfalso
    have k1 : (q'.1 - p.1) + (q.1 - p.1) = 0 ∧ (q'.2 - p.2) + (q.2 - p.2) = 0 := by
      have k : ((q'.1 - p.1) + (q.1 - p.1)) * ((q'.1 - p.1) + (q.1 - p.1)) + ((q'.2 - p.2) + (q.2 - p.2)) * ((q'.2 - p.2) + (q.2 - p.2)) = d2 p q + d2 p q' + 2 * s := by rw [← hs]; unfold d2; grind
      have z1 := sq_nonneg' ((q'.1 - p.1) + (q.1 - p.1)); have z2 := sq_nonneg' ((q'.2 - p.2) + (q.2 - p.2))
      exact ⟨sq_zero (by omega), sq_zero (by omega)⟩
    obtain ⟨r, hr, hd⟩ := hn p h.1 q h.2.1 (fun e => h.2.2.1 e.symm)
    have m1 := h.nn hr
    have m2 := h'.nn hr
    have m3 : dt p q' r = -dt p q r := by
      have a1 : q'.1 - p.1 = -(q.1 - p.1) := by omega
      have a2 : q'.2 - p.2 = -(q.2 - p.2) := by omega
      unfold dt; rw [a1, a2]; grind
    omega

/-- The end of an edge lies strictly between no two points. -/
theorem Ed.mid {S : List Pt} {p m x y : Pt} (h : Ed S p m) (hx : x ∈ S) (hy : y ∈ S) (hxy : x ≠ y) {α β : Int} (ha : 0 < α) (hb : 0 < β) (e1 : (α + β) * m.1 = α * x.1 + β * y.1) (e2 : (α + β) * m.2 = α * x.2 + β * y.2) : False := by
  have n1 := h.nn hx
  have n2 := h.nn hy
  have s0 : α * dt p m x + β * dt p m y = 0 := by
    have : α * dt p m x + β * dt p m y = (α + β) * dt p m m := by unfold dt; grind
    rw [this, dt_self, Int.mul_zero]
  have p1 := Int.mul_nonneg (Int.le_of_lt ha) n1
  have p2 := Int.mul_nonneg (Int.le_of_lt hb) n2
  have z1 : dt p m x = 0 := (Int.mul_eq_zero.1 (by omega : α * dt p m x = 0)).resolve_left (by omega)
  have z2 : dt p m y = 0 := (Int.mul_eq_zero.1 (by omega : β * dt p m y = 0)).resolve_left (by omega)
  have l1 : d2 p x ≤ d2 p m := by rcases h.2.2.2 x hx with k | k <;> omega
  have l2 : d2 p y ≤ d2 p m := by rcases h.2.2.2 y hy with k | k <;> omega
  have id : (α + β) * (α * (d2 p x - d2 p m) + β * (d2 p y - d2 p m)) = α * β * d2 x y := by unfold d2; grind
  have q1 := Int.mul_nonneg (Int.le_of_lt ha) (by omega : 0 ≤ d2 p m - d2 p x)
  have q2 := Int.mul_nonneg (Int.le_of_lt hb) (by omega : 0 ≤ d2 p m - d2 p y)
  have q3 : α * (d2 p x - d2 p m) + β * (d2 p y - d2 p m) ≤ 0 := by
    have : α * (d2 p x - d2 p m) = -(α * (d2 p m - d2 p x)) := by grind
    have : β * (d2 p y - d2 p m) = -(β * (d2 p m - d2 p y)) := by grind
    omega
  have q4 := Int.mul_pos (Int.mul_pos ha hb) (d2_pos hxy)
  have q5 := Int.mul_nonneg (by omega : 0 ≤ α + β) (by omega : 0 ≤ -(α * (d2 p x - d2 p m) + β * (d2 p y - d2 p m)))
  have : (α + β) * -(α * (d2 p x - d2 p m) + β * (d2 p y - d2 p m)) = -((α + β) * (α * (d2 p x - d2 p m) + β * (d2 p y - d2 p m))) := by grind
  omega

/-- On an edge's line lie no ends of edges but its own two. -/
theorem Ed.corner {S : List Pt} {a b k p p' : Pt} (h : Ed S a b) (hk : Ed S p k) (ha : Ed S p' a) (h0 : dt a b k = 0) : k = a ∨ k = b := by
  have hkS := hk.2.1
  by_cases e1 : k = a
  · exact .inl e1
  by_cases e2 : k = b
  · exact .inr e2
  exfalso
  have l1 : d2 a k ≤ d2 a b := by rcases h.2.2.2 k hkS with k | k <;> omega
  obtain ⟨N, hN⟩ : ∃ N, d2 a b = N := ⟨_, rfl⟩
  have N0 : 0 < N := by rw [← hN]; exact d2_pos (fun e => h.2.2.1 e.symm)
  obtain ⟨s, hs⟩ : ∃ s, (k.1 - a.1) * (b.1 - a.1) + (k.2 - a.2) * (b.2 - a.2) = s := ⟨_, rfl⟩
  have g1 : N * (k.1 - a.1) = s * (b.1 - a.1) := by
    have : N * (k.1 - a.1) = s * (b.1 - a.1) - (b.2 - a.2) * dt a b k := by rw [← hN, ← hs]; unfold d2 dt; grind
    rw [h0] at this; omega
  have g2 : N * (k.2 - a.2) = s * (b.2 - a.2) := by
    have : N * (k.2 - a.2) = s * (b.2 - a.2) + (b.1 - a.1) * dt a b k := by rw [← hN, ← hs]; unfold d2 dt; grind
    rw [h0] at this; omega
  rcases (by omega : s < 0 ∨ s = 0 ∨ 0 < s) with hneg | hz | hpos
  · exact ha.mid hkS h.2.1 e2 N0 (by omega : 0 < -s) (by grind) (by grind)
  · rw [hz, Int.zero_mul] at g1 g2
    have f1 := (Int.mul_eq_zero.1 g1).resolve_left (by omega)
    have f2 := (Int.mul_eq_zero.1 g2).resolve_left (by omega)
    exact e1 (Prod.ext (by omega) (by omega))
  · have hle : s * s ≤ N * N := by
      have i1 : N * d2 a k = s * s + dt a b k * dt a b k := by rw [← hN, ← hs]; unfold d2 dt; grind
      rw [h0] at i1
      have i2 := Int.mul_le_mul_of_nonneg_left (hN ▸ l1 : d2 a k ≤ N) (Int.le_of_lt N0)
      omega
    have hsN : s ≤ N := by
      false_or_by_contra
      have i3 := Int.mul_lt_mul_of_pos_left (by omega : N < s) N0
      have i4 := Int.mul_le_mul_of_nonneg_right (by omega : N ≤ s) (by omega : 0 ≤ s)
      omega
    rcases (by omega : s = N ∨ s < N) with rfl | hlt
    · have f1 : k.1 - a.1 = b.1 - a.1 := Int.eq_of_mul_eq_mul_left (by omega) g1
      have f2 : k.2 - a.2 = b.2 - a.2 := Int.eq_of_mul_eq_mul_left (by omega) g2
      exact e2 (Prod.ext (by omega) (by omega))
    · exact hk.mid h.1 h.2.1 (fun e => h.2.2.1 e.symm) (by omega : 0 < N - s) hpos (by grind) (by grind)

end Go.Proofs.YtaahgblkmajceaaGreat.Fx

set_option linter.unusedVariables false
namespace Go.Proofs.YtaahgblkmajceaaGreat.Fx

/-- The i-th point of a list that goes round. -/
def hp' (h : List Pt) (i : Nat) : Pt := h.getD (i % h.length) (0, 0)
theorem hp_lt {h : List Pt} {i : Nat} (hi : i < h.length) : hp' h i = h[i] := by
  unfold hp'; rw [Nat.mod_eq_of_lt hi, List.getD_eq_getElem?_getD, List.getElem?_eq_getElem hi]; rfl
theorem hp_add (h : List Pt) (i : Nat) : hp' h (i + h.length) = hp' h i := by unfold hp'; rw [Nat.add_mod_right]
theorem hp_mem {h : List Pt} (i : Nat) (h0 : 0 < h.length) : hp' h i ∈ h := by
  have hm := Nat.mod_lt i h0
  have : hp' h i = h[i % h.length] := by unfold hp'; rw [List.getD_eq_getElem?_getD, List.getElem?_eq_getElem hm]; rfl
  rw [this]; exact List.getElem_mem hm
theorem hp_of {h : List Pt} {x : Pt} (hx : x ∈ h) : ∃ i, i < h.length ∧ hp' h i = x := by
  obtain ⟨i, hi, rfl⟩ := List.mem_iff_getElem.1 hx
  exact ⟨i, hi, hp_lt hi⟩

theorem take_hp {h : List Pt} {i : Nat} (hi : i < h.length) : h.take i ++ [hp' h i] = h.take (i + 1) := by
  rw [hp_lt hi, List.take_add_one, List.getElem?_eq_getElem hi]; rfl

def lexLe (a b : Pt) : Prop := a.1 < b.1 ∨ (a.1 = b.1 ∧ a.2 ≤ b.2)
instance (a b : Pt) : Decidable (lexLe a b) := by unfold lexLe; exact inferInstance
theorem lexLe.antisymm {a b : Pt} (h : lexLe a b) (k : lexLe b a) : a = b := by
  unfold lexLe at *; exact Prod.ext (by omega) (by omega)
def isLow (S : List Pt) (p : Pt) : Prop := p ∈ S ∧ ∀ r ∈ S, lexLe p r
theorem isLow.unique {S : List Pt} {p q : Pt} (h : isLow S p) (k : isLow S q) : p = q := (h.2 q k.1).antisymm (k.2 p h.1)

/-- The corners of the hull, one behind the other, from the lowest one on. -/
def Hull (S h : List Pt) : Prop := 0 < h.length ∧ isLow S (hp' h 0) ∧ (∀ i, 0 < i → i < h.length → hp' h i ≠ hp' h 0) ∧ ∀ i, i < h.length → Ed S (hp' h i) (hp' h (i + 1))
theorem Hull.edge {S h : List Pt} (H : Hull S h) (i : Nat) : Ed S (hp' h i) (hp' h (i + 1)) := by
  have hm := Nat.mod_lt i H.1
  have e := H.2.2.2 _ hm
  have e1 : hp' h (i % h.length) = hp' h i := by unfold hp'; rw [Nat.mod_mod]
  have e2 : hp' h (i % h.length + 1) = hp' h (i + 1) := by unfold hp'; rw [Nat.mod_add_mod]
  rw [e1, e2] at e; exact e
theorem Hull.mem {S h : List Pt} (H : Hull S h) {x : Pt} (hx : x ∈ h) : x ∈ S := by
  obtain ⟨i, _, rfl⟩ := hp_of hx
  exact (H.edge i).1
theorem Hull.same {S h : List Pt} (hn : ncol S) (H : Hull S h) {i j : Nat} (e : hp' h i = hp' h j) : ∀ t, hp' h (i + t) = hp' h (j + t)
  | 0 => e
  | t + 1 => by
    have ih := Hull.same hn H e t
    have a := H.edge (i + t)
    have b := H.edge (j + t)
    rw [ih] at a
    exact a.unique hn b
/-- The corners are different. -/
theorem Hull.ne {S h : List Pt} (hn : ncol S) (H : Hull S h) {i j : Nat} (hij : i < j) (hj : j < h.length) : hp' h i ≠ hp' h j := by
  intro e
  have k := H.same hn e (h.length - j)
  rw [show j + (h.length - j) = 0 + h.length from by omega, hp_add] at k
  exact H.2.2.1 (i + (h.length - j)) (by omega) (by omega) k
theorem Hull.inj {S h : List Pt} (hn : ncol S) (H : Hull S h) {i j : Nat} (hi : i < h.length) (hj : j < h.length) (e : hp' h i = hp' h j) : i = j := by
  rcases (by omega : i < j ∨ i = j ∨ j < i) with k | k | k
  · exact absurd e (H.ne hn k hj)
  · exact k
  · exact absurd e.symm (H.ne hn k hi)
theorem Hull.nodup {S h : List Pt} (hn : ncol S) (H : Hull S h) : h.Nodup := by
  refine List.pairwise_iff_getElem.2 fun i j hi hj hij e => ?_
  have := H.ne hn hij hj
  rw [hp_lt hi, hp_lt hj] at this
  exact this e
theorem nodup_len : ∀ {h S : List Pt}, h.Nodup → (∀ x ∈ h, x ∈ S) → h.length ≤ S.length
  | [], S, _, _ => by simp
  | x :: h, S, hn, hs => by
    have hx := hs x (List.mem_cons_self ..)
    rw [List.nodup_cons] at hn
    have ih := nodup_len (h := h) (S := S.erase x) hn.2 (fun y hy => (List.mem_erase_of_ne (fun e => hn.1 (by rw [← e]; exact hy))).2 (hs y (List.mem_cons_of_mem _ hy)))
    rw [List.length_erase_of_mem hx] at ih
    have : 0 < S.length := List.length_pos_of_mem hx
    simp; omega
theorem Hull.len {S h : List Pt} (hn : ncol S) (H : Hull S h) : h.length ≤ S.length := nodup_len (H.nodup hn) fun x hx => H.mem hx

theorem Hull.back {S h : List Pt} (H : Hull S h) (i : Nat) : ∃ p, Ed S p (hp' h i) := by
  have e := H.edge (i + h.length - 1)
  have h0 := H.1
  rw [show i + h.length - 1 + 1 = i + h.length from by omega, hp_add] at e
  exact ⟨_, e⟩
theorem Hull.three {S h : List Pt} (hn : ncol S) (H : Hull S h) : 3 ≤ h.length := by
  have h0 := H.1
  false_or_by_contra
  rcases (by omega : h.length = 1 ∨ h.length = 2) with e | e
  · have k := H.edge 0
    have : hp' h (0 + 1) = hp' h 0 := by unfold hp'; rw [e]
    exact k.2.2.1 this
  · have k := H.edge 0
    have k' := H.edge 1
    have e2 : hp' h (1 + 1) = hp' h 0 := by unfold hp'; rw [e]
    rw [e2] at k'
    obtain ⟨r, hr, hd⟩ := hn _ k.1 _ k.2.1 (fun e => k.2.2.1 e.symm)
    have n1 := k.nn hr
    have n2 := k'.nn hr
    have : dt (hp' h 1) (hp' h 0) r = -dt (hp' h 0) (hp' h 1) r := by unfold dt; grind
    rw [Nat.zero_add] at n1 hd
    omega
/-- Strictly convex. -/
theorem Hull.strict {S h : List Pt} (hn : ncol S) (H : Hull S h) {i k : Nat} (hi : i < h.length) (hk : k < h.length) (h1 : k ≠ i) (h2 : k ≠ (i + 1) % h.length) : 0 < dt (hp' h i) (hp' h (i + 1)) (hp' h k) := by
  have e := H.edge i
  obtain ⟨p, hp⟩ := H.back k
  obtain ⟨p', hp'2⟩ := H.back i
  have nn := e.nn hp.2.1
  rcases (by omega : dt (hp' h i) (hp' h (i + 1)) (hp' h k) = 0 ∨ 0 < dt (hp' h i) (hp' h (i + 1)) (hp' h k)) with z | z
  · exfalso
    rcases e.corner hp hp'2 z with c | c
    · exact h1 (H.inj hn hk hi c)
    · have hm := Nat.mod_lt (i + 1) H.1
      have e3 : hp' h ((i + 1) % h.length) = hp' h (i + 1) := by unfold hp'; rw [Nat.mod_mod]
      exact h2 (H.inj hn hk hm (c.trans e3.symm))
  · exact z
theorem ncol_of {T : List Pt} {a b c : Pt} (ha : a ∈ T) (hb : b ∈ T) (hc : c ∈ T) (h : dt a b c ≠ 0) : ncol T := by
  intro x hx y hy hxy
  false_or_by_contra
  rename_i hno
  have hall : ∀ r ∈ T, dt x y r = 0 := fun r hr => by
    false_or_by_contra
    rename_i hd
    exact hno ⟨r, hr, hd⟩
  exact h (col_line hxy (hall a ha) (hall b hb) (hall c hc))
theorem Hull.nc {S h : List Pt} (hn : ncol S) (H : Hull S h) : ncol h := by
  have h3 := H.three hn
  have := H.strict hn (i := 0) (k := 2) (by omega) (by omega) (by omega) (by rw [Nat.mod_eq_of_lt (by omega)]; omega)
  exact ncol_of (hp_mem 0 (by omega)) (hp_mem 1 (by omega)) (hp_mem 2 (by omega)) (by rw [Nat.zero_add] at this; omega)
/-- The hull of the hull is the hull. -/
theorem Hull.self {S h : List Pt} (H : Hull S h) : Hull h h := by
  refine ⟨H.1, ⟨hp_mem 0 H.1, fun r hr => H.2.1.2 r (H.mem hr)⟩, H.2.2.1, fun i _ => ?_⟩
  exact (H.edge i).sub (fun x hx => H.mem hx) (hp_mem i H.1) (hp_mem (i + 1) H.1)

/-- The corner behind p, as a search through the points finds it. -/
def nxOK (S : List Pt) (p q : Pt) : Bool := decide (q ≠ p) && S.all fun r => decide (0 < dt p q r) || (decide (dt p q r = 0) && decide (d2 p r ≤ d2 p q))
def nxt (S : List Pt) (p : Pt) : Pt := (S.find? (nxOK S p)).getD p
theorem nxOK_iff {S : List Pt} {p q : Pt} (hp : p ∈ S) (hq : q ∈ S) : nxOK S p q = true ↔ Ed S p q := by
  unfold nxOK Ed
  simp only [Bool.and_eq_true, decide_eq_true_eq, List.all_eq_true, Bool.or_eq_true]
  constructor
  · rintro ⟨h1, h2⟩; exact ⟨hp, hq, h1, h2⟩
  · rintro ⟨_, _, h1, h2⟩; exact ⟨h1, h2⟩
theorem nxt_ed {S : List Pt} (hn : ncol S) {p q : Pt} (h : Ed S p q) : nxt S p = q := by
  unfold nxt
  cases e : S.find? (nxOK S p) with
  | none =>
    have := List.find?_eq_none.1 e q h.2.1
    exact absurd ((nxOK_iff h.1 h.2.1).2 h) this
  | some q' =>
    have h1 := List.find?_some e
    have h2 := List.mem_of_find?_eq_some e
    exact ((nxOK_iff h.1 h2).1 h1).unique hn h
/-- The walk from corner to corner. -/
def hloop (S : List Pt) (x0 : Pt) : Nat → Pt → List Pt → List Pt
  | 0, _, out => out
  | k + 1, v, out => if v ≠ x0 ∧ out.length ≤ S.length then hloop S x0 k (nxt S v) (out ++ [v]) else out
theorem Hull.loop {S h : List Pt} (hn : ncol S) (H : Hull S h) : ∀ (k i : Nat), i < h.length → h.length ≤ i + 1 + k → hloop S (hp' h 0) (k + 1) (hp' h (i + 1)) (h.take (i + 1)) = h
  | k, i, hi, hk => by
    have hl := H.len hn
    unfold hloop
    by_cases he : i + 1 = h.length
    · rw [if_neg, List.take_of_length_le (by omega)]
      rintro ⟨h1, _⟩
      exact h1 (by rw [he, show h.length = 0 + h.length from by omega, hp_add])
    · have hi2 : i + 1 < h.length := by omega
      rw [if_pos ⟨H.2.2.1 (i + 1) (by omega) hi2, by rw [List.length_take]; omega⟩, nxt_ed hn (H.edge (i + 1))]
      rw [show h.take (i + 1) ++ [hp' h (i + 1)] = h.take (i + 1 + 1) from take_hp hi2]
      obtain ⟨k, rfl⟩ : ∃ j, k = j + 1 := ⟨k - 1, by omega⟩
      exact Hull.loop hn H k (i + 1) hi2 (by omega)
/-- The hull's list is what the walk gives. -/
theorem Hull.walk {S h : List Pt} (hn : ncol S) (H : Hull S h) {k : Nat} (hk : S.length ≤ k + 1) : hloop S (hp' h 0) (k + 1) (nxt S (hp' h 0)) [hp' h 0] = h := by
  have e := H.loop hn k 0 H.1 (by have := H.len hn; omega)
  rw [← nxt_ed hn (H.edge 0)] at e
  rw [show h.take (0 + 1) = [hp' h 0] from (take_hp H.1).symm] at e
  exact e
theorem Hull.uniq {S h h' : List Pt} (hn : ncol S) (H : Hull S h) (H' : Hull S h') : h = h' := by
  have a := H.walk hn (Nat.le_succ S.length)
  have b := H'.walk hn (Nat.le_succ S.length)
  rw [isLow.unique H.2.1 H'.2.1] at a
  exact a.symm.trans b
theorem Ed.mono {S T : List Pt} (hT : ∀ x, x ∈ S ↔ x ∈ T) {p q : Pt} (h : Ed S p q) : Ed T p q := ⟨(hT p).1 h.1, (hT q).1 h.2.1, h.2.2.1, fun r hr => h.2.2.2 r ((hT r).2 hr)⟩
theorem Hull.mono {S T h : List Pt} (hT : ∀ x, x ∈ S ↔ x ∈ T) (H : Hull S h) : Hull T h :=
  ⟨H.1, ⟨(hT _).1 H.2.1.1, fun r hr => H.2.1.2 r ((hT r).2 hr)⟩, H.2.2.1, fun i hi => (H.2.2.2 i hi).mono hT⟩
theorem ncol_mono {S T : List Pt} (hT : ∀ x, x ∈ S ↔ x ∈ T) (h : ncol S) : ncol T := fun a ha b hb hab => by
  obtain ⟨r, hr, hd⟩ := h a ((hT a).2 ha) b ((hT b).2 hb) hab
  exact ⟨r, (hT r).1 hr, hd⟩

end Go.Proofs.YtaahgblkmajceaaGreat.Fx

set_option linter.unusedVariables false
namespace Go.Proofs.YtaahgblkmajceaaGreat.Fx

/-- A step to the right, or straight up. -/
def pos (x y : Int) : Prop := 0 < x ∨ (x = 0 ∧ 0 < y)
theorem tr_le {u1 u2 v1 v2 w1 w2 : Int} (hu : pos u1 u2) (hv : pos v1 v2) (hw : pos w1 w2) (h1 : 0 ≤ u1 * v2 - u2 * v1) (h2 : 0 ≤ v1 * w2 - v2 * w1) : 0 ≤ u1 * w2 - u2 * w1 := by
  have k : v1 * (u1 * w2 - u2 * w1) = w1 * (u1 * v2 - u2 * v1) + u1 * (v1 * w2 - v2 * w1) := by grind
  have u0 : 0 ≤ u1 := by unfold pos at hu; omega
  have w0 : 0 ≤ w1 := by unfold pos at hw; omega
  have q1 := Int.mul_nonneg w0 h1
  have q2 := Int.mul_nonneg u0 h2
  rcases hv with hv | ⟨hv, hv2⟩
  · false_or_by_contra
    have := Int.mul_neg_of_pos_of_neg hv (by omega : u1 * w2 - u2 * w1 < 0)
    omega
  · subst hv
    have e : 0 ≤ -(v2 * w1) := by grind
    have e2 := Int.mul_nonneg (Int.le_of_lt hv2) w0
    have z : w1 = 0 := (Int.mul_eq_zero.1 (by omega : v2 * w1 = 0)).resolve_left (by omega)
    subst z
    have w2p : 0 < w2 := by unfold pos at hw; omega
    have := Int.mul_nonneg u0 (Int.le_of_lt w2p)
    omega
theorem tr_lt {u1 u2 v1 v2 w1 w2 : Int} (hu : pos u1 u2) (hv : pos v1 v2) (hw : pos w1 w2) (h1 : 0 ≤ u1 * v2 - u2 * v1) (h2 : 0 < v1 * w2 - v2 * w1) : 0 < u1 * w2 - u2 * w1 := by
  have k : v1 * (u1 * w2 - u2 * w1) = w1 * (u1 * v2 - u2 * v1) + u1 * (v1 * w2 - v2 * w1) := by grind
  have u0 : 0 ≤ u1 := by unfold pos at hu; omega
  have w0 : 0 ≤ w1 := by unfold pos at hw; omega
  have q1 := Int.mul_nonneg w0 h1
  rcases hv with hv | ⟨hv, hv2⟩
  · rcases (by omega : 0 < u1 ∨ u1 = 0) with hu1 | hu1
    · have q2 := Int.mul_pos hu1 h2
      false_or_by_contra
      have := Int.mul_nonneg (Int.le_of_lt hv) (by omega : 0 ≤ -(u1 * w2 - u2 * w1))
      have e : v1 * -(u1 * w2 - u2 * w1) = -(v1 * (u1 * w2 - u2 * w1)) := by grind
      omega
    · subst hu1
      have u2p : 0 < u2 := by unfold pos at hu; omega
      have := Int.mul_pos u2p hv
      omega
  · subst hv
    have e2 := Int.mul_nonneg (Int.le_of_lt hv2) w0
    omega

def lexLt (a b : Pt) : Prop := pos (b.1 - a.1) (b.2 - a.2)
instance (a b : Pt) : Decidable (lexLt a b) := by unfold lexLt pos; exact inferInstance
theorem lexLt_iff {a b : Pt} : lexLt a b ↔ a.1 < b.1 ∨ (a.1 = b.1 ∧ a.2 < b.2) := by unfold lexLt pos; omega
theorem lexLe_iff {a b : Pt} : lexLe a b ↔ lexLt a b ∨ a = b := by
  rw [lexLt_iff]; unfold lexLe
  constructor
  · intro h
    by_cases e : a.1 = b.1 ∧ a.2 = b.2
    · exact .inr (Prod.ext e.1 e.2)
    · omega
  · rintro (h | rfl) <;> omega
theorem lexLt.trans {a b c : Pt} (h : lexLt a b) (k : lexLt b c) : lexLt a c := by rw [lexLt_iff] at *; omega
theorem lexLt.irrefl {a : Pt} (h : lexLt a a) : False := by rw [lexLt_iff] at h; omega
theorem lexLe_or (a b : Pt) : lexLe a b ∨ lexLt b a := by rw [lexLt_iff]; unfold lexLe; omega
theorem lexLe.lt {a b c : Pt} (h : lexLe a b) (k : lexLt b c) : lexLt a c := by rcases lexLe_iff.1 h with h | rfl; exact h.trans k; exact k

theorem turn_far {a b c d : Pt} (h1 : lexLt a b) (h2 : lexLt b c) (h3 : lexLt c d) (k1 : 0 < dt a b c) (k2 : 0 < dt b c d) : 0 < dt a b d := by
  have t := tr_le h1 h2 h3 (by unfold dt at k1; grind) (by unfold dt at k2; grind)
  have : dt a b d = dt a b c + ((b.1 - a.1) * (d.2 - c.2) - (b.2 - a.2) * (d.1 - c.1)) := by unfold dt; grind
  omega
theorem pop_far {a b q p : Pt} (h1 : lexLt a b) (h2 : lexLe b q) (h3 : lexLe q p) (hbp : lexLt b p) (k1 : dt a b p ≤ 0) (k2 : 0 ≤ dt b p q) : 0 ≤ dt a p q := by
  rcases lexLe_iff.1 h3 with h3 | rfl
  · have t := tr_le (u1 := p.1 - q.1) (u2 := p.2 - q.2) h3 hbp h1 (by unfold dt at k2; grind) (by unfold dt at k1; grind)
    have : dt a p q = ((p.1 - q.1) * (b.2 - a.2) - (p.2 - q.2) * (b.1 - a.1)) + dt b p q := by unfold dt; grind
    omega
  · rw [dt_self]; exact Int.le_refl _
theorem pop_near {a b q p : Pt} (h1 : lexLe a q) (h2 : lexLt q b) (h3 : lexLt b p) (k1 : 0 ≤ dt a b q) (k2 : dt a b p ≤ 0) : 0 ≤ dt a p q := by
  rcases lexLe_iff.1 h1 with h1 | rfl
  · have hab := h1.trans h2
    have t := tr_le (w1 := q.1 - a.1) (w2 := q.2 - a.2) h3 hab h1 (by unfold dt at k2; grind) (by unfold dt at k1; grind)
    have : dt a p q = dt a b q + ((p.1 - b.1) * (q.2 - a.2) - (p.2 - b.2) * (q.1 - a.1)) := by unfold dt; grind
    omega
  · rw [dt_first]; exact Int.le_refl _
theorem stay {a b q p : Pt} (h1 : lexLt a b) (h2 : lexLt q b) (h3 : lexLt b p) (k1 : 0 ≤ dt a b q) (k2 : 0 < dt a b p) : 0 < dt b p q := by
  have t := tr_lt (u1 := b.1 - q.1) (u2 := b.2 - q.2) h2 h1 h3 (by unfold dt at k1; grind) (by unfold dt at k2; grind)
  have : dt b p q = (b.1 - q.1) * (p.2 - b.2) - (b.2 - q.2) * (p.1 - b.1) := by unfold dt; grind
  omega

/-- All of Q lies on the left of the way from a to b, or on it between the two. -/
def good (Q : List Pt) (a b : Pt) : Prop := lexLt a b ∧ ∀ q ∈ Q, 0 < dt a b q ∨ (dt a b q = 0 ∧ lexLe a q ∧ lexLe q b)
theorem good.nn {Q : List Pt} {a b q : Pt} (h : good Q a b) (hq : q ∈ Q) : 0 ≤ dt a b q := by rcases h.2 q hq with k | k <;> omega
theorem good.ed {Q : List Pt} {a b : Pt} (h : good Q a b) (ha : a ∈ Q) (hb : b ∈ Q) : Ed Q a b := by
  refine ⟨ha, hb, fun e => lexLt.irrefl (e ▸ h.1), fun r hr => ?_⟩
  rcases h.2 r hr with k | ⟨k, k1, k2⟩
  · exact .inl k
  · refine .inr ⟨k, ?_⟩
    rcases lexLe_iff.1 k1 with k1 | rfl
    · rcases lexLe_iff.1 k2 with k2 | rfl
      · have hd : 0 ≤ (r.1 - a.1) * (b.1 - r.1) + (r.2 - a.2) * (b.2 - r.2) := by
          have hc : (r.1 - a.1) * (b.2 - r.2) = (r.2 - a.2) * (b.1 - r.1) := by unfold dt at k; grind
          have k1' : pos (r.1 - a.1) (r.2 - a.2) := k1
          have k2' : pos (b.1 - r.1) (b.2 - r.2) := k2
          generalize r.1 - a.1 = x1 at *
          generalize r.2 - a.2 = x2 at *
          generalize b.1 - r.1 = y1 at *
          generalize b.2 - r.2 = y2 at *
          unfold pos at k1' k2'
          rcases k1' with g | ⟨rfl, g⟩
          · rcases k2' with g2 | ⟨rfl, g2⟩
            · have m1 := Int.mul_pos g g2
              have m2 : 0 ≤ (x1 * y1) * (x2 * y2) := by
                have : (x1 * y1) * (x2 * y2) = (x1 * y2) * (x1 * y2) := by grind
                rw [this]; exact sq_nonneg' _
              have m3 : 0 ≤ x2 * y2 := by
                false_or_by_contra
                have := Int.mul_neg_of_pos_of_neg m1 (by omega : x2 * y2 < 0)
                omega
              omega
            · have := Int.mul_pos g g2
              omega
          · rcases k2' with g2 | ⟨rfl, g2⟩
            · have := Int.mul_pos g g2
              omega
            · have := Int.mul_pos g g2
              omega
        have e : d2 a b = d2 a r + d2 r b + 2 * ((r.1 - a.1) * (b.1 - r.1) + (r.2 - a.2) * (b.2 - r.2)) := by unfold d2; grind
        have := d2_nn r b
        omega
      · exact Int.le_refl _
    · rw [d2_self]; exact d2_nn _ _

/-- The chain, its last point first. -/
def edges (Q : List Pt) : List Pt → Prop
  | s :: t :: r => good Q t s ∧ edges Q (t :: r)
  | _ => True
def pop (p : Pt) : List Pt → List Pt
  | s :: t :: r => if dt t s p ≤ 0 then pop p (t :: r) else s :: t :: r
  | l => l
theorem pop_sub (p : Pt) : ∀ l : List Pt, ∀ x ∈ pop p l, x ∈ l
  | [] => by simp [pop]
  | [s] => by simp [pop]
  | s :: t :: r => by
    intro x hx
    unfold pop at hx
    split at hx
    · exact List.mem_cons_of_mem _ (pop_sub p (t :: r) x hx)
    · exact hx
/-- What the chain keeps: its edges are good, its points are among Q, it leads from the first of Q to the last. -/
structure Chain (Q st : List Pt) : Prop where
  ed : edges Q st
  sub : ∀ x ∈ st, x ∈ Q
  top : ∃ s r, st = s :: r ∧ ∀ q ∈ Q, lexLe q s
  low : ∃ z, st.getLast? = some z ∧ ∀ q ∈ Q, lexLe z q
/-- Popping. -/
theorem pop_ok {Q : List Pt} {p : Pt} (hp : ∀ q ∈ Q, lexLt q p) : ∀ (r : List Pt) (s : Pt), edges Q (s :: r) → (∀ x ∈ s :: r, x ∈ Q) → (∀ q ∈ Q, lexLe s q → 0 ≤ dt s p q) →
    ∃ s' r', pop p (s :: r) = s' :: r' ∧ edges Q (s' :: r') ∧ (∀ q ∈ Q, lexLe s' q → 0 ≤ dt s' p q) ∧ (∀ t r2, r' = t :: r2 → 0 < dt t s' p) ∧ (s' :: r').getLast? = (s :: r).getLast?
  | [], s, he, hs, hq => ⟨s, [], rfl, he, hq, by simp, rfl⟩
  | t :: r, s, he, hs, hq => by
    unfold pop
    by_cases h : dt t s p ≤ 0
    · rw [if_pos h]
      obtain ⟨hg, he2⟩ := he
      have hsp := hp s (hs s (List.mem_cons_self ..))
      obtain ⟨s', r', e1, e2, e3, e4, e5⟩ := pop_ok hp r t he2 (fun x hx => hs x (List.mem_cons_of_mem _ hx)) (fun q hq2 hle => by
        rcases lexLe_or s q with k | k
        · exact pop_far hg.1 k (lexLe_iff.2 (.inl (hp q hq2))) hsp h (hq q hq2 k)
        · exact pop_near hle k hsp (hg.nn hq2) h)
      exact ⟨s', r', e1, e2, e3, e4, by rw [e5]; rfl⟩
    · rw [if_neg h]
      exact ⟨s, t :: r, rfl, he, hq, fun t' r2 e => by cases e; omega, rfl⟩
theorem edges_add {Q : List Pt} {p : Pt} (hp : ∀ q ∈ Q, lexLt q p) : ∀ (r : List Pt) (s : Pt), edges Q (s :: r) → (∀ x ∈ s :: r, x ∈ Q) → (∀ t r2, r = t :: r2 → 0 < dt t s p) → edges (Q ++ [p]) (s :: r)
  | [], s, _, _, _ => trivial
  | t :: r, s, he, hs, ht => by
    obtain ⟨hg, he2⟩ := he
    have k := ht t r rfl
    have hsp := hp s (hs s (List.mem_cons_self ..))
    refine ⟨⟨hg.1, fun q hq => ?_⟩, edges_add hp r t he2 (fun x hx => hs x (List.mem_cons_of_mem _ hx)) fun u r2 e => ?_⟩
    · rcases List.mem_append.1 hq with hq | hq
      · exact hg.2 q hq
      · simp at hq; subst hq; exact .inl k
    · subst e
      obtain ⟨hg2, _⟩ := he2
      have hsQ := hs s (List.mem_cons_self ..)
      have k2 : 0 < dt u t s := by
        rcases hg2.2 s hsQ with g | ⟨_, _, g⟩
        · exact g
        · exact absurd (lexLe.lt g hg.1) lexLt.irrefl
      exact turn_far hg2.1 hg.1 hsp k2 k
theorem Chain.push {Q st : List Pt} {p : Pt} (h : Chain Q st) (hp : ∀ q ∈ Q, lexLt q p) : Chain (Q ++ [p]) (p :: pop p st) := by
  obtain ⟨s, r, rfl, htop⟩ := h.top
  obtain ⟨z, hz, hlow⟩ := h.low
  have hsQ := h.sub s (List.mem_cons_self ..)
  obtain ⟨s', r', e1, e2, e3, e4, e5⟩ := pop_ok hp r s h.ed h.sub (fun q hq hle => by
    have : q = s := (htop q hq).antisymm hle
    subst this; rw [dt_first]; exact Int.le_refl _)
  have hsub : ∀ x ∈ s' :: r', x ∈ Q := fun x hx => h.sub x (pop_sub p _ x (e1 ▸ hx))
  have hs' := hsub s' (List.mem_cons_self ..)
  have hsp := hp s' hs'
  rw [e1]
  refine ⟨⟨⟨hsp, fun q hq => ?_⟩, edges_add hp r' s' e2 hsub e4⟩, fun x hx => ?_, ⟨p, _, rfl, fun q hq => ?_⟩, ⟨z, ?_, fun q hq => ?_⟩⟩
  · rcases List.mem_append.1 hq with hq | hq
    · rcases lexLe_or s' q with k | k
      · have n := e3 q hq k
        rcases (by omega : dt s' p q = 0 ∨ 0 < dt s' p q) with g | g
        · exact .inr ⟨g, k, lexLe_iff.2 (.inl (hp q hq))⟩
        · exact .inl g
      · cases r' with
        | nil =>
          rw [← e5] at hz
          have : s' = z := by simpa using hz
          subst this
          exact absurd (lexLe.lt (hlow q hq) k) lexLt.irrefl
        | cons t r2 =>
          obtain ⟨hg, _⟩ := e2
          exact .inl (stay hg.1 k hsp (hg.nn hq) (e4 t r2 rfl))
    · simp at hq; subst hq
      exact .inr ⟨dt_self _ _, lexLe_iff.2 (.inl hsp), lexLe_iff.2 (.inr rfl)⟩
  · rcases List.mem_cons.1 hx with rfl | hx
    · simp
    · exact List.mem_append_left _ (hsub x hx)
  · rcases List.mem_append.1 hq with hq | hq
    · exact lexLe_iff.2 (.inl (hp q hq))
    · simp at hq; subst hq; exact lexLe_iff.2 (.inr rfl)
  · rw [List.getLast?_cons_cons, e5]; exact hz
  · rcases List.mem_append.1 hq with hq | hq
    · exact hlow q hq
    · simp at hq; subst hq
      exact lexLe_iff.2 (.inl (lexLe.lt (hlow s hsQ) (hp s hsQ)))
theorem Chain.one (p : Pt) : Chain [p] [p] :=
  ⟨trivial, fun x hx => hx, ⟨p, [], rfl, fun q hq => by simp at hq; subst hq; exact lexLe_iff.2 (.inr rfl)⟩, ⟨p, rfl, fun q hq => by simp at hq; subst hq; exact lexLe_iff.2 (.inr rfl)⟩⟩
/-- The chain over points in rising order. -/
def mono (P : List Pt) : List Pt := P.foldl (fun st p => p :: pop p st) []
theorem mono_snoc (P : List Pt) (p : Pt) : mono (P ++ [p]) = p :: pop p (mono P) := by simp [mono]
theorem mono_chain : ∀ (k : Nat) (P : List Pt), P.length = k + 1 → P.Pairwise lexLt → Chain P (mono P)
  | 0, P, hl, _ => by
    match P, hl with
    | [p], _ => exact Chain.one p
  | k + 1, P, hl, hp => by
    rcases List.eq_nil_or_concat P with rfl | ⟨Q, p, rfl⟩
    · simp at hl
    · rw [List.concat_eq_append] at *
      rw [List.pairwise_append] at hp
      rw [mono_snoc]
      exact (mono_chain k Q (by simpa using hl) hp.1).push fun q hq => hp.2.2 q hq p (by simp)

end Go.Proofs.YtaahgblkmajceaaGreat.Fx

set_option linter.unusedVariables false
namespace Go.Proofs.YtaahgblkmajceaaGreat.Fx

def path (S : List Pt) : List Pt → Prop
  | a :: b :: r => Ed S a b ∧ path S (b :: r)
  | _ => True
theorem path_get {S : List Pt} : ∀ {l : List Pt}, path S l → ∀ i (h : i + 1 < l.length), Ed S l[i] l[i + 1]
  | [], _, i, h => by simp at h
  | [a], _, i, h => by simp at h
  | a :: b :: r, hp, 0, _ => hp.1
  | a :: b :: r, hp, i + 1, h => path_get (l := b :: r) hp.2 i (by simpa using h)
theorem path_join {S : List Pt} {x : Pt} {l2 : List Pt} : ∀ {l1 : List Pt}, path S (l1 ++ [x]) → path S (x :: l2) → path S (l1 ++ x :: l2)
  | [], _, h2 => h2
  | [a], h1, h2 => ⟨h1.1, h2⟩
  | a :: b :: r, h1, h2 => ⟨h1.1, path_join (l1 := b :: r) h1.2 h2⟩
theorem edges_path {Q : List Pt} : ∀ {st : List Pt}, edges Q st → (∀ x ∈ st, x ∈ Q) → path Q st.reverse
  | [], _, _ => trivial
  | [a], _, _ => trivial
  | s :: t :: r, he, hs => by
    have ih := edges_path (st := t :: r) he.2 (fun x hx => hs x (List.mem_cons_of_mem _ hx))
    rw [List.reverse_cons] at ih
    rw [List.reverse_cons, List.reverse_cons, List.append_assoc]
    exact path_join ih ⟨he.1.ed (hs t (by simp)) (hs s (by simp)), trivial⟩
theorem edges_pw {Q : List Pt} : ∀ {st : List Pt}, edges Q st → st.Pairwise fun a b => lexLt b a
  | [], _ => List.Pairwise.nil
  | [a], _ => by simp
  | s :: t :: r, he => by
    have ih := edges_pw (st := t :: r) he.2
    refine List.pairwise_cons.2 ⟨fun x hx => ?_, ih⟩
    rcases List.mem_cons.1 hx with rfl | hx
    · exact he.1.1
    · exact ((List.pairwise_cons.1 ih).1 x hx).trans he.1.1

def neg (p : Pt) : Pt := (-p.1, -p.2)
theorem neg_neg' (p : Pt) : neg (neg p) = p := by unfold neg; simp
theorem dt_neg (a b c : Pt) : dt (neg a) (neg b) (neg c) = dt a b c := by unfold dt neg; grind
theorem d2_neg (a b : Pt) : d2 (neg a) (neg b) = d2 a b := by unfold d2 neg; grind
theorem lexLt_neg {a b : Pt} : lexLt (neg b) (neg a) ↔ lexLt a b := by rw [lexLt_iff, lexLt_iff]; unfold neg; simp; omega
theorem lexLe_neg {a b : Pt} : lexLe (neg b) (neg a) ↔ lexLe a b := by unfold lexLe neg; simp; omega
/-- The points turned round, in rising order again. -/
def ngl (P : List Pt) : List Pt := (P.map neg).reverse
theorem mem_ngl {P : List Pt} {x : Pt} : x ∈ ngl P ↔ neg x ∈ P := by
  unfold ngl; rw [List.mem_reverse, List.mem_map]
  constructor
  · rintro ⟨y, hy, rfl⟩; rw [neg_neg']; exact hy
  · intro h; exact ⟨neg x, h, neg_neg' x⟩
theorem Ed_ngl {P : List Pt} {a b : Pt} (h : Ed (ngl P) a b) : Ed P (neg a) (neg b) := by
  refine ⟨mem_ngl.1 h.1, mem_ngl.1 h.2.1, fun e => h.2.2.1 (by rw [← neg_neg' b, e, neg_neg']), fun r hr => ?_⟩
  have k := h.2.2.2 (neg r) (mem_ngl.2 (by rw [neg_neg']; exact hr))
  rw [← dt_neg, ← d2_neg a, ← d2_neg a b, neg_neg'] at k
  exact k
theorem path_ngl {P : List Pt} : ∀ {l : List Pt}, path (ngl P) l → path P (l.map neg)
  | [], _ => trivial
  | [a], _ => trivial
  | a :: b :: r, h => ⟨Ed_ngl h.1, path_ngl (l := b :: r) h.2⟩
theorem sorted_ngl {P : List Pt} (h : P.Pairwise lexLt) : (ngl P).Pairwise lexLt := by
  unfold ngl
  rw [List.pairwise_reverse, List.pairwise_map]
  exact h.imp fun {a b} k => lexLt_neg.2 k

/-- The hull's list of points in rising order, by the two chains. -/
def hullM (P : List Pt) : List Pt := (mono P).tail.reverse ++ ((mono (ngl P)).tail.map neg).reverse
theorem hullM_parts {P : List Pt} (hl : 2 ≤ P.length) (hp : P.Pairwise lexLt) : ∃ z s r r2, mono P = s :: (r ++ [z]) ∧ mono (ngl P) = neg z :: r2 ∧ isLow P z ∧ (∀ q ∈ P, lexLe q s) ∧ s ∈ P ∧ (neg z :: r2).getLast? = some (neg s) ∧
    hullM P = z :: (r.reverse ++ (r2.map neg).reverse) ∧ path P (z :: (r.reverse ++ (s :: ((r2.dropLast.map neg).reverse ++ [z])))) ∧ (∀ x ∈ r.reverse ++ (r2.map neg).reverse, lexLt z x) ∧ (r2.map neg).reverse = s :: (r2.dropLast.map neg).reverse := by
  have C1 := mono_chain (P.length - 1) P (by omega) hp
  have C2 := mono_chain (P.length - 1) (ngl P) (by unfold ngl; simp; omega) (sorted_ngl hp)
  obtain ⟨s, r0, e1, t1⟩ := C1.top
  obtain ⟨z, e2, l1⟩ := C1.low
  obtain ⟨s2, r2, e3, t2⟩ := C2.top
  obtain ⟨z2, e4, l2⟩ := C2.low
  have sP : s ∈ P := C1.sub s (by rw [e1]; simp)
  have zP : z ∈ P := C1.sub z (List.mem_of_getLast? e2)
  have s2P : neg s2 ∈ P := mem_ngl.1 (C2.sub s2 (by rw [e3]; simp))
  have z2P : neg z2 ∈ P := mem_ngl.1 (C2.sub z2 (List.mem_of_getLast? e4))
  have es2 : s2 = neg z := by
    have a := t2 (neg z) (mem_ngl.2 (by rw [neg_neg']; exact zP))
    have b := l1 (neg s2) s2P
    rw [← neg_neg' s2, lexLe_neg] at a
    have := a.antisymm b
    rw [← neg_neg' s2, this]
  have ez2 : z2 = neg s := by
    have a := l2 (neg s) (mem_ngl.2 (by rw [neg_neg']; exact sP))
    have b := t1 (neg z2) z2P
    rw [← neg_neg' z2, lexLe_neg] at a
    have := a.antisymm b
    rw [← neg_neg' z2, ← this]
  subst es2 ez2
  have hzs : lexLt z s := by
    match P, hl, hp with
    | a :: b :: r, _, hp =>
      have hab := (List.pairwise_cons.1 hp).1 b (by simp)
      have c1 := l1 a (by simp)
      have c2 := t1 b (by simp)
      exact lexLe.lt c1 (by rcases lexLe_iff.1 c2 with k | rfl; exact hab.trans k; exact hab)
  have hr0 : ∃ r, r0 = r ++ [z] := by
    rcases List.eq_nil_or_concat r0 with rfl | ⟨r, y, rfl⟩
    · rw [e1] at e2; simp at e2; subst e2; exact absurd hzs lexLt.irrefl
    · rw [List.concat_eq_append] at *
      rw [e1, ← List.cons_append, List.getLast?_concat] at e2
      exact ⟨r, by rw [Option.some.inj e2]⟩
  obtain ⟨r, rfl⟩ := hr0
  rw [e3] at e4
  have hr2 : ∃ r3, r2 = r3 ++ [neg s] := by
    rcases List.eq_nil_or_concat r2 with rfl | ⟨r3, y, rfl⟩
    · simp at e4
      have : z = s := by rw [← neg_neg' z, e4, neg_neg']
      subst this; exact absurd hzs lexLt.irrefl
    · rw [List.concat_eq_append] at *
      rw [← List.cons_append, List.getLast?_concat] at e4
      exact ⟨r3, by rw [Option.some.inj e4]⟩
  obtain ⟨r3, rfl⟩ := hr2
  have hrev : ((r3 ++ [neg s]).map neg).reverse = s :: (((r3 ++ [neg s]).dropLast).map neg).reverse := by simp [neg_neg']
  have w1 := edges_pw C1.ed
  have w2 := edges_pw C2.ed
  rw [e1] at w1
  rw [e3] at w2
  refine ⟨z, s, r, r3 ++ [neg s], e1, e3, ⟨zP, l1⟩, t1, sP, e4, ?_, ?_, ?_, hrev⟩
  · unfold hullM; rw [e1, e3]; simp
  · have p1 := edges_path C1.ed C1.sub
    have p2 := path_ngl (edges_path C2.ed C2.sub)
    rw [e1] at p1
    rw [e3] at p2
    have q1 : (s :: (r ++ [z])).reverse = (z :: r.reverse) ++ [s] := by simp
    have q2 : ((neg z :: (r3 ++ [neg s])).reverse.map neg) = s :: ((((r3 ++ [neg s]).dropLast).map neg).reverse ++ [z]) := by simp [neg_neg']
    rw [q1] at p1
    rw [q2] at p2
    exact path_join p1 p2
  · intro x hx
    rcases List.mem_append.1 hx with hx | hx
    · have := (List.pairwise_append.1 (List.pairwise_cons.1 w1).2).2.2 x (by simpa using hx) z (by simp)
      exact this
    · rw [List.mem_reverse, List.mem_map] at hx
      obtain ⟨y, hy, rfl⟩ := hx
      have := (List.pairwise_cons.1 w2).1 y hy
      rw [← neg_neg' y, lexLt_neg] at this
      exact this
/-- The two chains give the hull. -/
theorem hullM_hull {P : List Pt} (hl : 2 ≤ P.length) (hp : P.Pairwise lexLt) : Hull P (hullM P) := by
  obtain ⟨z, s, r, r2, e1, e2, hz, hs, sP, e4, eh, hpath, hlt, hrev⟩ := hullM_parts hl hp
  rw [eh]
  have h0 : hp' (z :: (r.reverse ++ (r2.map neg).reverse)) 0 = z := hp_lt (by simp)
  refine ⟨by simp, by rw [h0]; exact hz, fun i i0 hi => ?_, fun i hi => ?_⟩
  · rw [h0, hp_lt hi]
    obtain ⟨i, rfl⟩ : ∃ j, i = j + 1 := ⟨i - 1, by omega⟩
    intro e
    have := hlt _ (List.getElem_mem (by simpa using hi))
    rw [List.getElem_cons_succ] at e
    rw [e] at this
    exact lexLt.irrefl this
  · obtain ⟨L, hL⟩ : ∃ L, z :: (r.reverse ++ (r2.map neg).reverse) = L := ⟨_, rfl⟩
    have hp2 : path P (L ++ [z]) := by
      rw [← hL, hrev]
      simpa using hpath
    have hz2 : hp' L 0 = z := by rw [← hL]; exact h0
    rw [hL] at hi ⊢
    have g := path_get hp2 i (by simp; omega)
    rw [List.getElem_append_left hi] at g
    rw [hp_lt hi]
    by_cases hc : i + 1 < L.length
    · rw [List.getElem_append_left hc] at g
      rw [hp_lt hc]; exact g
    · have he : i + 1 = 0 + L.length := by omega
      have hg2 : (L ++ [z])[i + 1]'(by simp; omega) = z := by
        rw [List.getElem_append_right (by omega)]; simp
      rw [hg2] at g
      rw [he, hp_add, hz2]; exact g

/-- Points in rising order. -/
def ins (p : Pt) : List Pt → List Pt
  | [] => [p]
  | q :: r => if lexLt p q then p :: q :: r else if p = q then q :: r else q :: ins p r
def srt (S : List Pt) : List Pt := S.foldr ins []
theorem mem_ins {p x : Pt} : ∀ {l : List Pt}, x ∈ ins p l ↔ x = p ∨ x ∈ l
  | [] => by simp [ins]
  | q :: r => by
    have ih := mem_ins (p := p) (x := x) (l := r)
    unfold ins
    split
    · simp
    · split
      · rename_i h; subst h; simp
      · simp only [List.mem_cons, ih]
        constructor
        · rintro (h | h | h) <;> simp [h]
        · rintro (h | h | h) <;> simp [h]
theorem ins_sorted (p : Pt) : ∀ {l : List Pt}, l.Pairwise lexLt → (ins p l).Pairwise lexLt
  | [], _ => by simp [ins]
  | q :: r, h => by
    have hc := List.pairwise_cons.1 h
    unfold ins
    split
    · rename_i k
      refine List.pairwise_cons.2 ⟨fun x hx => ?_, h⟩
      rcases List.mem_cons.1 hx with rfl | hx
      · exact k
      · exact k.trans (hc.1 x hx)
    · split
      · exact h
      · rename_i k1 k2
        refine List.pairwise_cons.2 ⟨fun x hx => ?_, ins_sorted p hc.2⟩
        rcases mem_ins.1 hx with rfl | hx
        · rcases lexLe_or x q with g | g
          · rcases lexLe_iff.1 g with g | g
            · exact absurd g k1
            · exact absurd g k2
          · exact g
        · exact hc.1 x hx
theorem mem_srt {S : List Pt} {x : Pt} : x ∈ srt S ↔ x ∈ S := by
  induction S with
  | nil => simp [srt]
  | cons a S ih => show x ∈ ins a (srt S) ↔ _; rw [mem_ins, ih]; simp
theorem srt_sorted (S : List Pt) : (srt S).Pairwise lexLt := by
  induction S with
  | nil => exact List.Pairwise.nil
  | cons a S ih => exact ins_sorted a ih
/-- The hull exists. -/
theorem hull_ex {S : List Pt} (h : ∃ a ∈ S, ∃ b ∈ S, a ≠ b) : Hull S (hullM (srt S)) := by
  obtain ⟨a, ha, b, hb, hab⟩ := h
  have h2 : 2 ≤ (srt S).length := by
    have ha' := mem_srt.2 ha; have hb' := mem_srt.2 hb
    match srt S, ha', hb' with
    | [x], h1, h2 => simp at h1 h2; exact absurd (h1.trans h2.symm) hab
    | x :: y :: r, _, _ => simp
  exact (hullM_hull h2 (srt_sorted S)).mono fun x => mem_srt

end Go.Proofs.YtaahgblkmajceaaGreat.Fx

set_option linter.unusedVariables false
namespace Go.Proofs.YtaahgblkmajceaaGreat.Fx

def inrP (p : Pt) : Prop := -1048576 ≤ p.1 ∧ p.1 ≤ 1048576 ∧ -1048576 ≤ p.2 ∧ p.2 ≤ 1048576
instance (p : Pt) : Decidable (inrP p) := by unfold inrP; exact inferInstance
def inr2 (x y : Int) : Bool := decide (inrP (x, y))
def or3 (a b c : Pt) : Int := orient a.1 a.2 b.1 b.2 c.1 c.2
def rowok (ps : List Pt) (i k : Nat) : Prop := k = i ∨ k = (i + 1) % ps.length ∨ or3 (hp' ps i) (hp' ps (i + 1)) (hp' ps k) = 1
instance (ps : List Pt) (i k : Nat) : Decidable (rowok ps i k) := by unfold rowok; exact inferInstance
def cvxP (ps : List Pt) : Prop := 3 ≤ ps.length ∧ ps.length ≤ 8 ∧ (∀ p ∈ ps, inrP p) ∧ ∀ i, i < ps.length → ∀ k, k < ps.length → rowok ps i k
instance (ps : List Pt) : Decidable (cvxP ps) := by unfold cvxP; exact inferInstance
/-- IsConvex. -/
def cvx (ps : List Pt) : Bool := decide (cvxP ps)
theorem cvx_iff {ps : List Pt} : cvx ps = true ↔ cvxP ps := by simp [cvx]
theorem cvx_no {ps : List Pt} (h : ¬ cvxP ps) : cvx ps = false := by simp [cvx, h]
theorem hp_mod (h : List Pt) (i : Nat) : hp' h (i % h.length) = hp' h i := by unfold hp'; rw [Nat.mod_mod]

theorem inr_sat {x : Int} (h0 : -1048576 ≤ x) (h1 : x ≤ 1048576) : sat x = x := sat_id (by omega) (by omega)
theorem or3_dt {a b c : Pt} (ha : inrP a) (hb : inrP b) (hc : inrP c) : or3 a b c = sgn (dt a b c) := by
  unfold or3 orient det dt
  rw [inr_sat ha.1 ha.2.1, inr_sat ha.2.2.1 ha.2.2.2, inr_sat hb.1 hb.2.1, inr_sat hb.2.2.1 hb.2.2.2, inr_sat hc.1 hc.2.1, inr_sat hc.2.2.1 hc.2.2.2]
theorem dist2_d2 {a b : Pt} (ha : inrP a) (hb : inrP b) : dist2 a.1 a.2 b.1 b.2 = d2 a b := by
  unfold dist2 d2
  rw [inr_sat ha.1 ha.2.1, inr_sat ha.2.2.1 ha.2.2.2, inr_sat hb.1 hb.2.1, inr_sat hb.2.2.1 hb.2.2.2]

/-- The number of a pair of consecutive vertices, and the sums. -/
def crs (ps : List Pt) (i : Nat) : Int := rdiv (((hp' ps i).1 - (hp' ps 0).1) * ((hp' ps (i + 1)).2 - (hp' ps 0).2) - ((hp' ps i).2 - (hp' ps 0).2) * ((hp' ps (i + 1)).1 - (hp' ps 0).1)) 65536
def crsS (ps : List Pt) : Nat → Int
  | 0 => 0
  | k + 1 => crsS ps k + crs ps (k + 1)
def cenX (ps : List Pt) : Nat → Int
  | 0 => 0
  | k + 1 => cenX ps k + ((hp' ps (k + 1)).1 - (hp' ps 0).1 + (hp' ps (k + 2)).1 - (hp' ps 0).1) * crs ps (k + 1)
def cenY (ps : List Pt) : Nat → Int
  | 0 => 0
  | k + 1 => cenY ps k + ((hp' ps (k + 1)).2 - (hp' ps 0).2 + (hp' ps (k + 2)).2 - (hp' ps 0).2) * crs ps (k + 1)
/-- Area, Centroid. -/
def areaP (ps : List Pt) : Int := if cvx ps = true then rdiv (crsS ps (ps.length - 2)) 2 else 0
def cenP (ps : List Pt) : Pt := if cvx ps = true then
    (if crsS ps (ps.length - 2) = 0 then hp' ps 0 else ((hp' ps 0).1 + rdiv (cenX ps (ps.length - 2)) (3 * crsS ps (ps.length - 2)), (hp' ps 0).2 + rdiv (cenY ps (ps.length - 2)) (3 * crsS ps (ps.length - 2))))
  else (0, 0)
/-- ShortestEdge. -/
def edg (ps : List Pt) (i : Nat) : Int := vlen (sub (hp' ps (i + 1)).1 (hp' ps i).1) (sub (hp' ps (i + 1)).2 (hp' ps i).2)
def shr (ps : List Pt) : Nat → Int
  | 0 => -1
  | k + 1 => if shr ps k < 0 ∨ edg ps k < shr ps k then edg ps k else shr ps k
def shortP (ps : List Pt) : Int := if cvx ps = true then shr ps ps.length else 0
/-- Contains. -/
def conP (ps : List Pt) (x y : Int) : Prop := cvxP ps ∧ ∀ i, i < ps.length → or3 (hp' ps i) (hp' ps (i + 1)) (sat x, sat y) ≠ -1
instance (ps : List Pt) (x y : Int) : Decidable (conP ps x y) := by unfold conP; exact inferInstance
def cont (ps : List Pt) (x y : Int) : Bool := decide (conP ps x y)
/-- Support: the best index so far, and its product. -/
def dots (p : Pt) (dx dy : Int) : Int := sat p.1 * sat dx + sat p.2 * sat dy
def sup (ps : List Pt) (dx dy : Int) : Nat → Int × Int
  | 0 => (-1, 0)
  | k + 1 => if (sup ps dx dy k).1 < 0 ∨ (sup ps dx dy k).2 < dots (hp' ps k) dx dy then ((k : Int), dots (hp' ps k) dx dy) else sup ps dx dy k
def supP (ps : List Pt) (dx dy : Int) : Int := (sup ps dx dy ps.length).1

theorem crs_in {ps : List Pt} (h0 : 0 < ps.length) (h : ∀ p ∈ ps, inrP p) (i : Nat) : -134217729 ≤ crs ps i ∧ crs ps i ≤ 134217729 := by
  have a := h _ (hp_mem (h := ps) 0 h0); have b := h _ (hp_mem (h := ps) i h0); have c := h _ (hp_mem (h := ps) (i + 1) h0)
  unfold inrP at a b c
  have m1 := mul_between (a := (hp' ps i).1 - (hp' ps 0).1) (b := (hp' ps (i + 1)).2 - (hp' ps 0).2) (A := 2097152) (B := 2097152) (by omega) (by omega) (by omega) (by omega)
  have m2 := mul_between (a := (hp' ps i).2 - (hp' ps 0).2) (b := (hp' ps (i + 1)).1 - (hp' ps 0).1) (A := 2097152) (B := 2097152) (by omega) (by omega) (by omega) (by omega)
  unfold crs
  generalize (hp' ps i).1 - (hp' ps 0).1 = e1 at *
  generalize (hp' ps i).2 - (hp' ps 0).2 = e2 at *
  generalize (hp' ps (i + 1)).1 - (hp' ps 0).1 = f1 at *
  generalize (hp' ps (i + 1)).2 - (hp' ps 0).2 = f2 at *
  rw [rdiv_in (by omega) (by omega) (by omega) (by omega)]
  have hr := rcore_near (n := e1 * f2 - e2 * f1) (d := 65536) (by omega)
  omega
theorem crsS_in {ps : List Pt} (h0 : 0 < ps.length) (h : ∀ p ∈ ps, inrP p) : ∀ k : Nat, -(134217729 * (k : Int)) ≤ crsS ps k ∧ crsS ps k ≤ 134217729 * (k : Int)
  | 0 => by simp [crsS]
  | k + 1 => by
    have ih := crsS_in h0 h k
    have c := crs_in h0 h (k + 1)
    show -(134217729 * ((k + 1 : Nat) : Int)) ≤ crsS ps k + crs ps (k + 1) ∧ crsS ps k + crs ps (k + 1) ≤ _
    omega
theorem cen_in {ps : List Pt} (h0 : 0 < ps.length) (h : ∀ p ∈ ps, inrP p) : ∀ k : Nat, (-(562949957615616 * (k : Int)) ≤ cenX ps k ∧ cenX ps k ≤ 562949957615616 * (k : Int)) ∧ (-(562949957615616 * (k : Int)) ≤ cenY ps k ∧ cenY ps k ≤ 562949957615616 * (k : Int))
  | 0 => by simp [cenX, cenY]
  | k + 1 => by
    have ih := cen_in h0 h k
    have c := crs_in h0 h (k + 1)
    have a := h _ (hp_mem (h := ps) 0 h0); have b := h _ (hp_mem (h := ps) (k + 1) h0); have d := h _ (hp_mem (h := ps) (k + 2) h0)
    unfold inrP at a b d
    have m1 := mul_between (a := (hp' ps (k + 1)).1 - (hp' ps 0).1 + (hp' ps (k + 2)).1 - (hp' ps 0).1) (b := crs ps (k + 1)) (A := 4194304) (B := 134217729) (by omega) (by omega) (by omega) (by omega)
    have m2 := mul_between (a := (hp' ps (k + 1)).2 - (hp' ps 0).2 + (hp' ps (k + 2)).2 - (hp' ps 0).2) (b := crs ps (k + 1)) (A := 4194304) (B := 134217729) (by omega) (by omega) (by omega) (by omega)
    simp only [cenX, cenY]
    omega

end Go.Proofs.YtaahgblkmajceaaGreat.Fx

set_option linter.unusedVariables false
namespace Go.Proofs.YtaahgblkmajceaaGreat
open Fx

def sq : List (Int × Int) := [(0, 0), (65536, 0), (65536, 65536), (0, 65536)]
def sq5 : List (Int × Int) := [(65536, 65536), (0, 0), (5, 5), (0, 65536), (65536, 0)]
theorem sq_cvx : cvx sq = true := by decide +kernel
theorem sq_area : areaP sq = 65536 := by decide +kernel
theorem sq_cen : cenP sq = (32768, 32768) := by decide +kernel
theorem vlen_65536 {x y : Int} (h : sat x * sat x + sat y * sat y = 4294967296) : vlen x y = 65536 := by
  have hv := vlen_is x y
  rw [h] at hv
  obtain ⟨h0, -, h1, h2⟩ := hv
  generalize vlen x y = v at *
  rcases (by omega : v ≤ 65535 ∨ v = 65536 ∨ 65537 ≤ v) with c | c | c
  · have := Int.mul_le_mul (show v + 1 ≤ 65536 by omega) (show v + 1 ≤ 65536 by omega) (by omega) (by omega)
    omega
  · exact c
  · have := Int.mul_le_mul c c (by omega) (by omega)
    omega
theorem sq_short : shortP sq = 65536 := by
  unfold shortP
  rw [sq_cvx, if_pos rfl]
  have e0 : edg sq 0 = 65536 := vlen_65536 (by decide +kernel)
  have e1 : edg sq 1 = 65536 := vlen_65536 (by decide +kernel)
  have e2 : edg sq 2 = 65536 := vlen_65536 (by decide +kernel)
  have e3 : edg sq 3 = 65536 := vlen_65536 (by decide +kernel)
  show shr sq 4 = 65536
  simp [shr, e0, e1, e2, e3]

end Go.Proofs.YtaahgblkmajceaaGreat
