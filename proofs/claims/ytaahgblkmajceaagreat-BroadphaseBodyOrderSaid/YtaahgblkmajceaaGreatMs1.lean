/- Plain mathematics of chapter 13: the centroid of a convex polygon lies inside it, roundings included. No program is imported.
Plain mathematics of chapter 13, continued: the centroid, as it is rounded, lies to the left of every edge. No program is imported.
Plain mathematics of chapter 13: the Lean functions that the contracts of package massdata and of its reference speak of; the mass does not fall with the density, nor below that of a part. No program is imported. -/
import Derived.Test.YtaahgblkmajceaaGreatMa5
import Derived.Test.YtaahgblkmajceaaGreatSh1

set_option linter.unusedVariables false
namespace Go.Proofs.YtaahgblkmajceaaGreat.Fx

/-! ### The moment of a distance over a polygon does not depend on the point that it is fanned from -/
/-- Three values of the distance from the line through P and Q. -/
def tri (P Q a b c : Pt) : Int := dt P Q a + dt P Q b + dt P Q c
theorem tri_split (P Q o o' a b : Pt) : dt o a b * tri P Q o a b = dt o' a b * tri P Q o' a b + dt o a o' * tri P Q o a o' - dt o b o' * tri P Q o b o' := by unfold tri dt; grind
def phi (P Q v : Pt) (l : Nat → Pt) : Nat → Int
  | 0 => 0
  | k + 1 => phi P Q v l k + dt v (l k) (l (k + 1)) * tri P Q v (l k) (l (k + 1))
theorem phi_move (P Q o o' : Pt) (l : Nat → Pt) : ∀ k, phi P Q o l k = phi P Q o' l k + dt o (l 0) o' * tri P Q o (l 0) o' - dt o (l k) o' * tri P Q o (l k) o'
  | 0 => by unfold phi; omega
  | k + 1 => by unfold phi; rw [phi_move P Q o o' l k, tri_split P Q o o' (l k) (l (k + 1))]; omega
def mom (P Q : Pt) (l : Nat → Pt) : Nat → Int
  | 0 => 0
  | k + 1 => mom P Q l k + dt (l 0) (l (k + 1)) (l (k + 2)) * tri P Q (l 0) (l (k + 1)) (l (k + 2))
theorem phi_mom (P Q : Pt) (l : Nat → Pt) : ∀ k, phi P Q (l 0) l (k + 1) = mom P Q l k
  | 0 => by
    unfold phi phi mom
    rw [show dt (l 0) (l 0) (l 1) = 0 from by unfold dt; grind, Int.zero_mul]; rfl
  | k + 1 => by
    rw [show phi P Q (l 0) l (k + 1 + 1) = phi P Q (l 0) l (k + 1) + dt (l 0) (l (k + 1)) (l (k + 1 + 1)) * tri P Q (l 0) (l (k + 1)) (l (k + 1 + 1)) from rfl, phi_mom P Q l k]; rfl
theorem phi_ge {P Q v : Pt} {l : Nat → Pt} {H : Int} (hv : dt P Q v = H) (hd : ∀ i, 0 ≤ dt P Q (l i)) (hv2 : ∀ i, 0 ≤ dt v (l i) (l (i + 1))) : ∀ k, H * rim v l k ≤ phi P Q v l k
  | 0 => by unfold rim phi; omega
  | k + 1 => by
    have ih := phi_ge hv hd hv2 k
    have e : cr v (l k) (l (k + 1)) = dt v (l k) (l (k + 1)) := by unfold cr dt; grind
    unfold rim phi
    rw [e, Int.mul_add]
    have h1 := hd k
    have h2 := hd (k + 1)
    have h3 : H * dt v (l k) (l (k + 1)) ≤ dt v (l k) (l (k + 1)) * tri P Q v (l k) (l (k + 1)) := by
      rw [Int.mul_comm]
      exact Int.mul_le_mul_of_nonneg_left (by unfold tri; omega) (hv2 k)
    omega

/-! ### Thickness -/
/-- How far the distance moves along the walk. -/
def tv (a : Nat → Int) : Nat → Int
  | 0 => 0
  | k + 1 => tv a k + (if a k < a (k + 1) then a (k + 1) - a k else a k - a (k + 1))
theorem tv_le {a : Nat → Int} {H : Int} {n : Nat} (h0 : a 0 = 0) (hH : ∀ i, a i ≤ H) (hno : ∀ i, 1 ≤ i → i + 1 ≤ n → ¬ (a i ≤ a (i - 1) ∧ a i ≤ a (i + 1))) : ∀ k, k ≤ n → tv a k = a k ∨ (1 ≤ k ∧ a k ≤ a (k - 1) ∧ tv a k + a k ≤ 2 * H)
  | 0, _ => .inl (by rw [h0]; rfl)
  | k + 1, hk => by
    have hs : tv a (k + 1) = tv a k + (if a k < a (k + 1) then a (k + 1) - a k else a k - a (k + 1)) := rfl
    have hHk := hH k
    rcases tv_le h0 hH hno k (by omega) with h | ⟨h1, h2, h3⟩
    · split at hs
      · exact .inl (by omega)
      · refine .inr ⟨by omega, ?_, by omega⟩
        rw [Nat.add_sub_cancel]; omega
    · have hn := hno k h1 hk
      have h4 : ¬ a k < a (k + 1) := fun h => hn ⟨h2, by omega⟩
      rw [if_neg h4] at hs
      refine .inr ⟨by omega, ?_, by omega⟩
      rw [Nat.add_sub_cancel]; omega

/-- Where a corner lies no higher than its neighbours, nothing lies lower. -/
theorem valley {P Q a b c z : Pt} (h0 : 0 < dt b c a) (h1 : 0 ≤ dt a b z) (h2 : 0 ≤ dt b c z) (ha : dt P Q b ≤ dt P Q a) (hc : dt P Q b ≤ dt P Q c) : dt P Q b ≤ dt P Q z := by
  have id : (dt P Q z - dt P Q b) * dt b c a = dt a b z * (dt P Q c - dt P Q b) + dt b c z * (dt P Q a - dt P Q b) := by unfold dt; grind
  have p1 := Int.mul_nonneg h1 (show 0 ≤ dt P Q c - dt P Q b by omega)
  have p2 := Int.mul_nonneg h2 (show 0 ≤ dt P Q a - dt P Q b by omega)
  have : 0 ≤ dt P Q z - dt P Q b := Int.nonneg_of_mul_nonneg_left (by omega) h0
  omega

theorem shear_x (P Q : Pt) (l : Nat → Pt) (hx : ∀ i, -1048576 ≤ (l i).1 ∧ (l i).1 ≤ 1048576) : ∀ k,
    -(2097152 * tv (fun i => dt P Q (l i)) k) ≤ (Q.1 - P.1) * rim P l k + ((l k).1 + P.1) * dt P Q (l k) - ((l 0).1 + P.1) * dt P Q (l 0) ∧ (Q.1 - P.1) * rim P l k + ((l k).1 + P.1) * dt P Q (l k) - ((l 0).1 + P.1) * dt P Q (l 0) ≤ 2097152 * tv (fun i => dt P Q (l i)) k
  | 0 => by unfold rim tv; constructor <;> omega
  | k + 1 => by
    obtain ⟨ih1, ih2⟩ := shear_x P Q l hx k
    have e : (Q.1 - P.1) * cr P (l k) (l (k + 1)) + ((l (k + 1)).1 + P.1) * dt P Q (l (k + 1)) - ((l k).1 + P.1) * dt P Q (l k) = ((l k).1 + (l (k + 1)).1) * (dt P Q (l (k + 1)) - dt P Q (l k)) := by unfold cr dt; grind
    have hs : tv (fun i => dt P Q (l i)) (k + 1) = tv (fun i => dt P Q (l i)) k + (if dt P Q (l k) < dt P Q (l (k + 1)) then dt P Q (l (k + 1)) - dt P Q (l k) else dt P Q (l k) - dt P Q (l (k + 1))) := rfl
    have hr : rim P l (k + 1) = rim P l k + cr P (l k) (l (k + 1)) := rfl
    have x0 := hx k
    have x1 := hx (k + 1)
    rw [hr, Int.mul_add, hs]
    generalize dt P Q (l (k + 1)) = d1 at *
    generalize dt P Q (l k) = d0 at *
    split
    · have p := mul_between (a := (l k).1 + (l (k + 1)).1) (b := d1 - d0) (A := 2097152) (B := d1 - d0) (by omega) (by omega) (by omega) (by omega)
      omega
    · have p := mul_between (a := (l k).1 + (l (k + 1)).1) (b := d1 - d0) (A := 2097152) (B := d0 - d1) (by omega) (by omega) (by omega) (by omega)
      omega
theorem shear_y (P Q : Pt) (l : Nat → Pt) (hx : ∀ i, -1048576 ≤ (l i).2 ∧ (l i).2 ≤ 1048576) : ∀ k,
    -(2097152 * tv (fun i => dt P Q (l i)) k) ≤ (Q.2 - P.2) * rim P l k + ((l k).2 + P.2) * dt P Q (l k) - ((l 0).2 + P.2) * dt P Q (l 0) ∧ (Q.2 - P.2) * rim P l k + ((l k).2 + P.2) * dt P Q (l k) - ((l 0).2 + P.2) * dt P Q (l 0) ≤ 2097152 * tv (fun i => dt P Q (l i)) k
  | 0 => by unfold rim tv; constructor <;> omega
  | k + 1 => by
    obtain ⟨ih1, ih2⟩ := shear_y P Q l hx k
    have e : (Q.2 - P.2) * cr P (l k) (l (k + 1)) + ((l (k + 1)).2 + P.2) * dt P Q (l (k + 1)) - ((l k).2 + P.2) * dt P Q (l k) = ((l k).2 + (l (k + 1)).2) * (dt P Q (l (k + 1)) - dt P Q (l k)) := by unfold cr dt; grind
    have hs : tv (fun i => dt P Q (l i)) (k + 1) = tv (fun i => dt P Q (l i)) k + (if dt P Q (l k) < dt P Q (l (k + 1)) then dt P Q (l (k + 1)) - dt P Q (l k) else dt P Q (l k) - dt P Q (l (k + 1))) := rfl
    have hr : rim P l (k + 1) = rim P l k + cr P (l k) (l (k + 1)) := rfl
    have x0 := hx k
    have x1 := hx (k + 1)
    rw [hr, Int.mul_add, hs]
    generalize dt P Q (l (k + 1)) = d1 at *
    generalize dt P Q (l k) = d0 at *
    split
    · have p := mul_between (a := (l k).2 + (l (k + 1)).2) (b := d1 - d0) (A := 2097152) (B := d1 - d0) (by omega) (by omega) (by omega) (by omega)
      omega
    · have p := mul_between (a := (l k).2 + (l (k + 1)).2) (b := d1 - d0) (A := 2097152) (B := d0 - d1) (by omega) (by omega) (by omega) (by omega)
      omega

/-! ### Walks that begin elsewhere -/
theorem rim_cons (v : Pt) (l : Nat → Pt) : ∀ k, rim v l (k + 1) = cr v (l 0) (l 1) + rim v (fun i => l (i + 1)) k
  | 0 => by show 0 + cr v (l 0) (l 1) = cr v (l 0) (l 1) + 0; omega
  | k + 1 => by
    rw [show rim v l (k + 1 + 1) = rim v l (k + 1) + cr v (l (k + 1)) (l (k + 1 + 1)) from rfl, rim_cons v l k]
    rw [show rim v (fun i => l (i + 1)) (k + 1) = rim v (fun i => l (i + 1)) k + cr v (l (k + 1)) (l (k + 1 + 1)) from rfl]; omega
theorem rim_turn (v : Pt) (l : Nat → Pt) (n : Nat) (hp : ∀ i, l (i + n) = l i) : ∀ s, rim v (fun i => l (i + s)) n = rim v l n
  | 0 => rfl
  | s + 1 => by
    have e := rim_cons v (fun i => l (i + s)) n
    have e2 : rim v (fun i => l (i + s)) (n + 1) = rim v (fun i => l (i + s)) n + cr v (l (n + s)) (l (n + 1 + s)) := rfl
    have h1 : l (n + s) = l (0 + s) := by rw [Nat.add_comm n s, Nat.zero_add]; exact hp s
    have h2 : l (n + 1 + s) = l (1 + s) := by rw [show n + 1 + s = (1 + s) + n from by omega]; exact hp (1 + s)
    rw [h1, h2] at e2
    have e3 : (fun i => (fun i => l (i + s)) (i + 1)) = fun i => l (i + (s + 1)) := by funext i; show l (i + 1 + s) = _; congr 1; omega
    rw [e3] at e
    have ih := rim_turn v l n hp s
    have e4 : cr v ((fun i => l (i + s)) 0) ((fun i => l (i + s)) 1) = cr v (l (0 + s)) (l (1 + s)) := rfl
    omega

end Go.Proofs.YtaahgblkmajceaaGreat.Fx

set_option linter.unusedVariables false
namespace Go.Proofs.YtaahgblkmajceaaGreat.Fx

theorem dt_nonneg {ps : List Pt} (h : cvxP ps) (i k : Nat) : 0 ≤ dt (hp' ps i) (hp' ps (i + 1)) (hp' ps k) := by
  have h0 : 0 < ps.length := by have := h.1; omega
  have e1 := hp_mod1 ps i
  have e2 := hp_mod ps k
  have hi := Nat.mod_lt i h0
  have hk := Nat.mod_lt k h0
  rw [← e1.1, ← e1.2, ← e2]
  by_cases c1 : k % ps.length = i % ps.length
  · rw [c1]; have : dt (hp' ps (i % ps.length)) (hp' ps (i % ps.length + 1)) (hp' ps (i % ps.length)) = 0 := by unfold dt; grind
    omega
  by_cases c2 : k % ps.length = (i % ps.length + 1) % ps.length
  · have e7 : hp' ps (k % ps.length) = hp' ps (i % ps.length + 1) := by rw [c2, hp_mod]
    rw [e7]; have : dt (hp' ps (i % ps.length)) (hp' ps (i % ps.length + 1)) (hp' ps (i % ps.length + 1)) = 0 := by unfold dt; grind
    omega
  exact Int.le_of_lt (cvx_dt h hi hk c1 c2)
theorem dt_pos {ps : List Pt} (h : cvxP ps) {i k : Nat} (c1 : k % ps.length ≠ i % ps.length) (c2 : k % ps.length ≠ (i + 1) % ps.length) : 0 < dt (hp' ps i) (hp' ps (i + 1)) (hp' ps k) := by
  have h0 : 0 < ps.length := by have := h.1; omega
  have e1 := hp_mod1 ps i
  have e2 := hp_mod ps k
  rw [← e1.1, ← e1.2, ← e2]
  refine cvx_dt h (Nat.mod_lt i h0) (Nat.mod_lt k h0) c1 ?_
  rw [Nat.mod_add_mod]; exact c2
theorem hp_n (ps : List Pt) (i : Nat) : hp' ps (i + ps.length) = hp' ps i := hp_add ps i

/-- The highest corner. -/
theorem top_ex (f : Nat → Int) : ∀ n, 1 ≤ n → ∃ m, m < n ∧ ∀ i, i < n → f i ≤ f m
  | 0, h => absurd h (by omega)
  | 1, _ => ⟨0, by omega, fun i hi => by have : i = 0 := by omega
                                         subst this; exact Int.le_refl _⟩
  | n + 2, _ => by
    obtain ⟨m, hm, h⟩ := top_ex f (n + 1) (by omega)
    by_cases c : f m ≤ f (n + 1)
    · exact ⟨n + 1, by omega, fun i hi => by
        rcases (by omega : i < n + 1 ∨ i = n + 1) with h1 | rfl
        · exact Int.le_trans (h i h1) c
        · exact Int.le_refl _⟩
    · exact ⟨m, by omega, fun i hi => by
        rcases (by omega : i < n + 1 ∨ i = n + 1) with h1 | rfl
        · exact h i h1
        · omega⟩

def wsum (P Q : Pt) (ps : List Pt) : Nat → Int
  | 0 => 0
  | k + 1 => wsum P Q ps k + crs ps (k + 1) * tri P Q (hp' ps 0) (hp' ps (k + 1)) (hp' ps (k + 2))
theorem wsum_cen (P Q : Pt) (ps : List Pt) : ∀ k, 3 * dt P Q (hp' ps 0) * crsS ps k + ((Q.1 - P.1) * cenY ps k - (Q.2 - P.2) * cenX ps k) = wsum P Q ps k
  | 0 => by unfold crsS cenX cenY wsum; simp
  | k + 1 => by
    have ih := wsum_cen P Q ps k
    unfold crsS cenX cenY wsum
    rw [← ih]
    generalize crs ps (k + 1) = c
    unfold tri dt
    grind
theorem crs_near {ps : List Pt} (hin : ∀ p ∈ ps, inrP p) (h0 : 0 < ps.length) (k : Nat) : dt (hp' ps 0) (hp' ps (k + 1)) (hp' ps (k + 2)) - 32768 ≤ 65536 * crs ps (k + 1) ∧ 65536 * crs ps (k + 1) ≤ dt (hp' ps 0) (hp' ps (k + 1)) (hp' ps (k + 2)) + 32768 := by
  have i0 := hin _ (hp_mem (h := ps) 0 h0)
  have i1 := hin _ (hp_mem (h := ps) (k + 1) h0)
  have i2 := hin _ (hp_mem (h := ps) (k + 2) h0)
  unfold inrP at i0 i1 i2
  have p1 := mul_between (a := (hp' ps (k + 1)).1 - (hp' ps 0).1) (b := (hp' ps (k + 2)).2 - (hp' ps 0).2) (A := 2097152) (B := 2097152) (by omega) (by omega) (by omega) (by omega)
  have p2 := mul_between (a := (hp' ps (k + 1)).2 - (hp' ps 0).2) (b := (hp' ps (k + 2)).1 - (hp' ps 0).1) (A := 2097152) (B := 2097152) (by omega) (by omega) (by omega) (by omega)
  have hd : dt (hp' ps 0) (hp' ps (k + 1)) (hp' ps (k + 2)) = ((hp' ps (k + 1)).1 - (hp' ps 0).1) * ((hp' ps (k + 2)).2 - (hp' ps 0).2) - ((hp' ps (k + 1)).2 - (hp' ps 0).2) * ((hp' ps (k + 2)).1 - (hp' ps 0).1) := rfl
  have hc : crs ps (k + 1) = rdiv (dt (hp' ps 0) (hp' ps (k + 1)) (hp' ps (k + 2))) 65536 := rfl
  have d1 := rdiv_lo (q := 0) (n := dt (hp' ps 0) (hp' ps (k + 1)) (hp' ps (k + 2))) (d := 65536) (by omega) (by omega) (by omega) (by omega)
  rw [hc]; omega
theorem wsum_ge {ps : List Pt} (h : cvxP ps) {P Q : Pt} {H : Int} (hd : ∀ i, 0 ≤ dt P Q (hp' ps i) ∧ dt P Q (hp' ps i) ≤ H) : ∀ k : Nat, mom P Q (hp' ps) k - 98304 * H * k ≤ 65536 * wsum P Q ps k
  | 0 => by unfold mom wsum; simp
  | k + 1 => by
    have h0 : 0 < ps.length := by have := h.1; omega
    have ih := wsum_ge h hd k
    have hn := crs_near h.2.2.1 h0 k
    have t0 := hd 0
    have t1 := hd (k + 1)
    have t2 := hd (k + 2)
    unfold mom wsum
    have ht : 0 ≤ tri P Q (hp' ps 0) (hp' ps (k + 1)) (hp' ps (k + 2)) ∧ tri P Q (hp' ps 0) (hp' ps (k + 1)) (hp' ps (k + 2)) ≤ 3 * H := by unfold tri; omega
    have p := Int.mul_le_mul_of_nonneg_right hn.1 ht.1
    rw [Int.sub_mul, Int.mul_assoc] at p
    generalize crs ps (k + 1) * tri P Q (hp' ps 0) (hp' ps (k + 1)) (hp' ps (k + 2)) = u at *
    generalize dt (hp' ps 0) (hp' ps (k + 1)) (hp' ps (k + 2)) * tri P Q (hp' ps 0) (hp' ps (k + 1)) (hp' ps (k + 2)) = v at *
    generalize tri P Q (hp' ps 0) (hp' ps (k + 1)) (hp' ps (k + 2)) = t at *
    rw [show 98304 * H * ((k + 1 : Nat) : Int) = 98304 * H * (k : Int) + 98304 * H from by rw [Int.natCast_add, Int.mul_add]; simp]
    generalize 98304 * H * (k : Int) = z at *
    omega
theorem crsS_near {ps : List Pt} (h : cvxP ps) : ∀ k : Nat, 65536 * crsS ps k ≤ fan (hp' ps) k + 32768 * k
  | 0 => by unfold crsS fan; omega
  | k + 1 => by
    have ih := crsS_near h k
    have hn := crs_near h.2.2.1 (by have := h.1; omega) k
    unfold crsS fan
    omega

/-- The moment, and the thickness, of a convex polygon above one of its edges. -/
theorem edge_facts {ps : List Pt} (h : cvxP ps) (j : Nat) : ∃ H : Int, 0 ≤ H ∧ (∀ i, 0 ≤ dt (hp' ps j) (hp' ps (j + 1)) (hp' ps i) ∧ dt (hp' ps j) (hp' ps (j + 1)) (hp' ps i) ≤ H) ∧ H * fan (hp' ps) (ps.length - 2) ≤ mom (hp' ps j) (hp' ps (j + 1)) (hp' ps) (ps.length - 2) ∧
    (-(4194304 * H) ≤ ((hp' ps (j + 1)).1 - (hp' ps j).1) * fan (hp' ps) (ps.length - 2) ∧ ((hp' ps (j + 1)).1 - (hp' ps j).1) * fan (hp' ps) (ps.length - 2) ≤ 4194304 * H) ∧
    (-(4194304 * H) ≤ ((hp' ps (j + 1)).2 - (hp' ps j).2) * fan (hp' ps) (ps.length - 2) ∧ ((hp' ps (j + 1)).2 - (hp' ps j).2) * fan (hp' ps) (ps.length - 2) ≤ 4194304 * H) := by
  have h3 := h.1
  have h0 : 0 < ps.length := by omega
  have hin := h.2.2.1
  obtain ⟨n, hn⟩ : ∃ n, ps.length = n + 2 := ⟨ps.length - 2, by omega⟩
  obtain ⟨m, hm, htop⟩ := top_ex (fun i => dt (hp' ps j) (hp' ps (j + 1)) (hp' ps i)) ps.length (by omega)
  have htop2 : ∀ i, dt (hp' ps j) (hp' ps (j + 1)) (hp' ps i) ≤ dt (hp' ps j) (hp' ps (j + 1)) (hp' ps m) := fun i => by
    have := htop (i % ps.length) (Nat.mod_lt i h0)
    rw [hp_mod] at this; exact this
  have hnn := fun i => dt_nonneg h j i
  have hper : ∀ i, hp' ps (i + (n + 2)) = hp' ps i := fun i => by rw [← hn]; exact hp_n ps i
  -- the sum over the walk
  have hrim : ∀ v, rim v (hp' ps) (n + 2) = fan (hp' ps) n := fun v => by
    have e1 := fan_rim v (hp' ps) n
    have e2 : rim v (hp' ps) (n + 2) = rim v (hp' ps) (n + 1) + cr v (hp' ps (n + 1)) (hp' ps (n + 2)) := rfl
    have e3 : hp' ps (n + 2) = hp' ps 0 := by have := hper 0; rw [Nat.zero_add] at this; exact this
    rw [e3] at e2; omega
  refine ⟨dt (hp' ps j) (hp' ps (j + 1)) (hp' ps m), hnn m, fun i => ⟨hnn i, htop2 i⟩, ?_, ?_⟩
  · rw [hn, Nat.add_sub_cancel, ← phi_mom (hp' ps j) (hp' ps (j + 1)) (hp' ps) n]
    have e4 : phi (hp' ps j) (hp' ps (j + 1)) (hp' ps 0) (hp' ps) (n + 2) = phi (hp' ps j) (hp' ps (j + 1)) (hp' ps 0) (hp' ps) (n + 1) := by
      have e3 : hp' ps (n + 2) = hp' ps 0 := by have := hper 0; rw [Nat.zero_add] at this; exact this
      rw [show phi (hp' ps j) (hp' ps (j + 1)) (hp' ps 0) (hp' ps) (n + 2) = phi (hp' ps j) (hp' ps (j + 1)) (hp' ps 0) (hp' ps) (n + 1) + dt (hp' ps 0) (hp' ps (n + 1)) (hp' ps (n + 2)) * tri (hp' ps j) (hp' ps (j + 1)) (hp' ps 0) (hp' ps (n + 1)) (hp' ps (n + 2)) from rfl, e3]
      rw [show dt (hp' ps 0) (hp' ps (n + 1)) (hp' ps 0) = 0 from by unfold dt; grind, Int.zero_mul, Int.add_zero]
    rw [← e4, phi_move (hp' ps j) (hp' ps (j + 1)) (hp' ps 0) (hp' ps m) (hp' ps) (n + 2)]
    have e3 : hp' ps (n + 2) = hp' ps 0 := by have := hper 0; rw [Nat.zero_add] at this; exact this
    rw [e3]
    have g := phi_ge (P := hp' ps j) (Q := hp' ps (j + 1)) (v := hp' ps m) (l := hp' ps) rfl hnn (fun i => by
      have := dt_nonneg h i m
      have e : dt (hp' ps m) (hp' ps i) (hp' ps (i + 1)) = dt (hp' ps i) (hp' ps (i + 1)) (hp' ps m) := by unfold dt; grind
      rw [e]; exact this) (n + 2)
    rw [hrim] at g
    omega
  · -- the walk from the edge's far end to its near end
    have hturn := fun v => rim_turn v (hp' ps) (n + 2) hper (j + 1)
    have hA0 : dt (hp' ps j) (hp' ps (j + 1)) (hp' ps (0 + (j + 1))) = 0 := by rw [Nat.zero_add]; unfold dt; grind
    have eN : hp' ps (n + 1 + (j + 1)) = hp' ps j := by rw [show n + 1 + (j + 1) = j + (n + 2) from by omega]; exact hper j
    have hAN : dt (hp' ps j) (hp' ps (j + 1)) (hp' ps (n + 1 + (j + 1))) = 0 := by rw [eN]; unfold dt; grind
    have hmodne : ∀ a b : Nat, a < b → b < a + ps.length → b % ps.length ≠ a % ps.length := fun a b h1 h2 e => by
      have := Nat.div_add_mod a ps.length
      have := Nat.div_add_mod b ps.length
      rw [e] at this
      have hq : ps.length * (b / ps.length) = ps.length * (a / ps.length) + (b - a) := by omega
      have h5 : ps.length * (a / ps.length) < ps.length * (b / ps.length) := by omega
      have h6 := Nat.lt_of_mul_lt_mul_left h5
      have h7 : ps.length * (a / ps.length + 1) ≤ ps.length * (b / ps.length) := Nat.mul_le_mul_left _ h6
      rw [Nat.mul_add, Nat.mul_one] at h7
      omega
    have hno : ∀ i, 1 ≤ i → i + 1 ≤ n + 1 → ¬ ((fun i => dt (hp' ps j) (hp' ps (j + 1)) (hp' ps (i + (j + 1)))) i ≤ (fun i => dt (hp' ps j) (hp' ps (j + 1)) (hp' ps (i + (j + 1)))) (i - 1) ∧ (fun i => dt (hp' ps j) (hp' ps (j + 1)) (hp' ps (i + (j + 1)))) i ≤ (fun i => dt (hp' ps j) (hp' ps (j + 1)) (hp' ps (i + (j + 1)))) (i + 1)) := fun i h1 h2 ⟨g1, g2⟩ => by
      dsimp only at g1 g2
      obtain ⟨k, rfl⟩ : ∃ k, i = k + 1 := ⟨i - 1, by omega⟩
      rw [Nat.add_sub_cancel] at g1
      have ea : k + 1 + (j + 1) = (k + (j + 1)) + 1 := by omega
      have eb : k + 1 + 1 + (j + 1) = (k + (j + 1)) + 1 + 1 := by omega
      rw [ea] at g1 g2
      rw [eb] at g2
      have hp1 : 0 < dt (hp' ps (k + (j + 1) + 1)) (hp' ps (k + (j + 1) + 1 + 1)) (hp' ps (k + (j + 1))) :=
        dt_pos h (fun e => hmodne (k + (j + 1)) (k + (j + 1) + 1) (by omega) (by omega) e.symm) (fun e => hmodne (k + (j + 1)) (k + (j + 1) + 1 + 1) (by omega) (by omega) e.symm)
      have v := valley (P := hp' ps j) (Q := hp' ps (j + 1)) (z := hp' ps j) hp1 (dt_nonneg h (k + (j + 1)) j) (dt_nonneg h (k + (j + 1) + 1) j) g1 g2
      have hz : dt (hp' ps j) (hp' ps (j + 1)) (hp' ps j) = 0 := by unfold dt; grind
      have hpos : 0 < dt (hp' ps j) (hp' ps (j + 1)) (hp' ps (k + (j + 1) + 1)) :=
        dt_pos h (hmodne j (k + (j + 1) + 1) (by omega) (by omega)) (hmodne (j + 1) (k + (j + 1) + 1) (by omega) (by omega))
      omega
    have htv := tv_le (a := fun i => dt (hp' ps j) (hp' ps (j + 1)) (hp' ps (i + (j + 1)))) (H := dt (hp' ps j) (hp' ps (j + 1)) (hp' ps m)) (n := n + 1) hA0 (fun i => htop2 _) hno (n + 1) (Nat.le_refl _)
    have htv2 : tv (fun i => dt (hp' ps j) (hp' ps (j + 1)) (hp' ps (i + (j + 1)))) (n + 1) ≤ 2 * dt (hp' ps j) (hp' ps (j + 1)) (hp' ps m) := by
      have := hnn m
      rcases htv with e | ⟨_, _, e⟩
      · rw [e]; show dt (hp' ps j) (hp' ps (j + 1)) (hp' ps (n + 1 + (j + 1))) ≤ _; omega
      · have e6 : tv (fun i => dt (hp' ps j) (hp' ps (j + 1)) (hp' ps (i + (j + 1)))) (n + 1) + dt (hp' ps j) (hp' ps (j + 1)) (hp' ps (n + 1 + (j + 1))) ≤ 2 * dt (hp' ps j) (hp' ps (j + 1)) (hp' ps m) := e
        rw [hAN] at e6; omega
    have hlast : rim (hp' ps j) (fun i => hp' ps (i + (j + 1))) (n + 2) = rim (hp' ps j) (fun i => hp' ps (i + (j + 1))) (n + 1) := by
      rw [show rim (hp' ps j) (fun i => hp' ps (i + (j + 1))) (n + 2) = rim (hp' ps j) (fun i => hp' ps (i + (j + 1))) (n + 1) + cr (hp' ps j) (hp' ps (n + 1 + (j + 1))) (hp' ps (n + 1 + 1 + (j + 1))) from rfl, eN]
      rw [show cr (hp' ps j) (hp' ps j) (hp' ps (n + 1 + 1 + (j + 1))) = 0 from by unfold cr; grind, Int.add_zero]
    have hS : rim (hp' ps j) (fun i => hp' ps (i + (j + 1))) (n + 1) = fan (hp' ps) n := by rw [← hlast, hturn, hrim]
    have sx := shear_x (hp' ps j) (hp' ps (j + 1)) (fun i => hp' ps (i + (j + 1))) (fun i => by have := hin _ (hp_mem (i + (j + 1)) h0); unfold inrP at this; exact ⟨this.1, this.2.1⟩) (n + 1)
    have sy := shear_y (hp' ps j) (hp' ps (j + 1)) (fun i => hp' ps (i + (j + 1))) (fun i => by have := hin _ (hp_mem (i + (j + 1)) h0); unfold inrP at this; exact ⟨this.2.2.1, this.2.2.2⟩) (n + 1)
    rw [hS, hA0, hAN, Int.mul_zero, Int.mul_zero] at sx sy
    rw [hn, Nat.add_sub_cancel]
    omega

/-- The centroid lies to the left of every edge. -/
theorem cen_left {ps : List Pt} (h : cvxP ps) (hA : 256 ≤ areaP ps) (j : Nat) : 0 ≤ dt (hp' ps j) (hp' ps (j + 1)) (cenP ps) := by
  obtain ⟨H, hH, hd, hM, ⟨x1, x2⟩, y1, y2⟩ := edge_facts h j
  have h3 := h.1
  have h8 := h.2.1
  have h0 : 0 < ps.length := by omega
  obtain ⟨n, hn⟩ : ∃ n, ps.length = n + 2 := ⟨ps.length - 2, by omega⟩
  rw [hn, Nat.add_sub_cancel] at hM x1 x2 y1 y2
  have hw := wsum_ge h hd n
  have hc := wsum_cen (hp' ps j) (hp' ps (j + 1)) ps n
  have hWl := fan_area h.2.2.1 h0 n
  have hWu := crsS_near h n
  have hn6 : (n : Int) ≤ 6 := by omega
  have bd : ∀ k : Nat, k ≤ 6 → -134217729 * (k : Int) ≤ crsS ps k ∧ crsS ps k ≤ 134217729 * (k : Int) ∧ (-562949957615616 * (k : Int) ≤ cenX ps k ∧ cenX ps k ≤ 562949957615616 * (k : Int)) ∧ -562949957615616 * (k : Int) ≤ cenY ps k ∧ cenY ps k ≤ 562949957615616 * (k : Int) := fun k => by
    induction k with
    | zero => intro _; unfold crsS cenX cenY; omega
    | succ k ih =>
      intro hk
      have ih := ih (by omega)
      have i0 := h.2.2.1 _ (hp_mem (h := ps) 0 h0)
      have i1 := h.2.2.1 _ (hp_mem (h := ps) (k + 1) h0)
      have i2 := h.2.2.1 _ (hp_mem (h := ps) (k + 2) h0)
      have hcn := crs_near h.2.2.1 h0 k
      unfold inrP at i0 i1 i2
      have p1 := mul_between (a := (hp' ps (k + 1)).1 - (hp' ps 0).1) (b := (hp' ps (k + 2)).2 - (hp' ps 0).2) (A := 2097152) (B := 2097152) (by omega) (by omega) (by omega) (by omega)
      have p2 := mul_between (a := (hp' ps (k + 1)).2 - (hp' ps 0).2) (b := (hp' ps (k + 2)).1 - (hp' ps 0).1) (A := 2097152) (B := 2097152) (by omega) (by omega) (by omega) (by omega)
      have hd : dt (hp' ps 0) (hp' ps (k + 1)) (hp' ps (k + 2)) = ((hp' ps (k + 1)).1 - (hp' ps 0).1) * ((hp' ps (k + 2)).2 - (hp' ps 0).2) - ((hp' ps (k + 1)).2 - (hp' ps 0).2) * ((hp' ps (k + 2)).1 - (hp' ps 0).1) := rfl
      unfold crsS cenX cenY
      have bc : -134217729 ≤ crs ps (k + 1) ∧ crs ps (k + 1) ≤ 134217729 := by omega
      generalize crs ps (k + 1) = c at *
      have q1 := mul_between (a := (hp' ps (k + 1)).1 - (hp' ps 0).1 + (hp' ps (k + 2)).1 - (hp' ps 0).1) (b := c) (A := 4194304) (B := 134217729) (by omega) (by omega) bc.1 bc.2
      have q2 := mul_between (a := (hp' ps (k + 1)).2 - (hp' ps 0).2 + (hp' ps (k + 2)).2 - (hp' ps 0).2) (b := c) (A := 4194304) (B := 134217729) (by omega) (by omega) bc.1 bc.2
      clear p1 p2 hd hcn
      omega
  obtain ⟨b1, b2, ⟨b3, b4⟩, b5, b6⟩ := bd n (by omega)
  have hW : 511 ≤ crsS ps n := by
    unfold areaP at hA
    rw [if_pos (cvx_iff.2 h), hn, Nat.add_sub_cancel] at hA
    have d1 := rdiv_lo (q := 0) (n := crsS ps n) (d := 2) (by omega) (by omega) (by omega) (by omega)
    omega
  have ec : cenP ps = ((hp' ps 0).1 + rdiv (cenX ps n) (3 * crsS ps n), (hp' ps 0).2 + rdiv (cenY ps n) (3 * crsS ps n)) := by
    unfold cenP; rw [if_pos (cvx_iff.2 h), hn, Nat.add_sub_cancel, if_neg (by omega)]
  have dX := rdiv_lo (q := 0) (n := cenX ps n) (d := 3 * crsS ps n) (by omega) (by omega) (by omega) (by omega)
  have dY := rdiv_lo (q := 0) (n := cenY ps n) (d := 3 * crsS ps n) (by omega) (by omega) (by omega) (by omega)
  have hdt : dt (hp' ps j) (hp' ps (j + 1)) (cenP ps) = dt (hp' ps j) (hp' ps (j + 1)) (hp' ps 0) + (((hp' ps (j + 1)).1 - (hp' ps j).1) * rdiv (cenY ps n) (3 * crsS ps n) - ((hp' ps (j + 1)).2 - (hp' ps j).2) * rdiv (cenX ps n) (3 * crsS ps n)) := by
    rw [ec]; unfold dt; grind
  rw [hdt]
  generalize rdiv (cenY ps n) (3 * crsS ps n) = ry at *
  generalize rdiv (cenX ps n) (3 * crsS ps n) = rx at *
  generalize (hp' ps (j + 1)).1 - (hp' ps j).1 = Ex at *
  generalize (hp' ps (j + 1)).2 - (hp' ps j).2 = Ey at *
  generalize dt (hp' ps j) (hp' ps (j + 1)) (hp' ps 0) = d0 at *
  generalize wsum (hp' ps j) (hp' ps (j + 1)) ps n = Ws at *
  generalize mom (hp' ps j) (hp' ps (j + 1)) (hp' ps) n = M at *
  generalize fan (hp' ps) n = S at *
  generalize crsS ps n = W at *
  generalize cenX ps n = cX at *
  generalize cenY ps n = cY at *
  clear bd b1 b2 b3 b4 b5 b6 hdt ec hd
  -- 6 W S (the distance) = 2 S Ws + (Ex S) (2 (ry 3 W - cY)) - (Ey S) (2 (rx 3 W - cX))
  have hS : (33292288 : Int) ≤ S := by omega
  have id : 6 * W * S * (d0 + (Ex * ry - Ey * rx)) = 2 * S * Ws + (Ex * S) * (2 * (ry * (3 * W) - cY)) - (Ey * S) * (2 * (rx * (3 * W) - cX)) := by rw [← hc]; grind
  have q1 := mul_between (a := Ex * S) (b := 2 * (ry * (3 * W) - cY)) (A := 4194304 * H) (B := 3 * W) x1 x2 (by omega) (by omega)
  have q2 := mul_between (a := Ey * S) (b := 2 * (rx * (3 * W) - cX)) (A := 4194304 * H) (B := 3 * W) y1 y2 (by omega) (by omega)
  have hHS : H * (S - 589824) ≤ 65536 * Ws := by
    have e : H * (S - 589824) = H * S - 589824 * H := by rw [Int.mul_sub, Int.mul_comm H 589824]
    have e2 : 98304 * H * (n : Int) ≤ 98304 * H * 6 := Int.mul_le_mul_of_nonneg_left hn6 (by omega)
    omega
  have hW2 : 65536 * W ≤ S + 196608 := by omega
  -- 65536 (2 S Ws - 2 * 4194304 H 3 W) ≥ 0
  have k1 : 2 * S * (H * (S - 589824)) ≤ 2 * S * (65536 * Ws) := Int.mul_le_mul_of_nonneg_left hHS (by omega)
  have k2 : 25165824 * H * (65536 * W) ≤ 25165824 * H * (S + 196608) := Int.mul_le_mul_of_nonneg_left hW2 (by omega)
  have k3 : 25165824 * (S + 196608) ≤ 2 * S * (S - 589824) := by
    have : (33292288 : Int) * 32702464 ≤ S * (S - 589824) := Int.mul_le_mul hS (by omega) (by omega) (by omega)
    have t : S * 32702464 ≤ S * (S - 589824) := Int.mul_le_mul_of_nonneg_left (by omega) (by omega)
    have t2 : 2 * S * (S - 589824) = 2 * (S * (S - 589824)) := by grind
    omega
  have k4 : H * (25165824 * (S + 196608)) ≤ H * (2 * S * (S - 589824)) := Int.mul_le_mul_of_nonneg_left k3 hH
  have k5 : 0 ≤ 6 * W * S * (d0 + (Ex * ry - Ey * rx)) := by
    have e1 : 25165824 * H * (65536 * W) = 65536 * (2 * (4194304 * H * (3 * W))) := by grind
    have e2 : 25165824 * H * (S + 196608) = H * (25165824 * (S + 196608)) := by grind
    have e3 : H * (2 * S * (S - 589824)) = 2 * S * (H * (S - 589824)) := by grind
    have e4 : 2 * S * (65536 * Ws) = 65536 * (2 * S * Ws) := by grind
    omega
  exact Int.nonneg_of_mul_nonneg_right k5 (Int.mul_pos (by omega) (by omega))

end Go.Proofs.YtaahgblkmajceaaGreat.Fx

set_option linter.unusedVariables false
namespace Go.Proofs.YtaahgblkmajceaaGreat.Fx

/-- Mass, center, inertia. -/
structure Md where
  m : Int
  x : Int
  y : Int
  i : Int
  deriving DecidableEq, Inhabited
def Md.zero : Md := ⟨0, 0, 0, 0⟩
def kkI (ps : List Pt) (cx cy : Int) (i : Nat) : Int := cross (sub (hp' ps i).1 cx) (sub (hp' ps i).2 cy) (sub (hp' ps (i + 1)).1 cx) (sub (hp' ps (i + 1)).2 cy)
def ddI (ps : List Pt) (cx cy : Int) (i : Nat) : Int :=
  dot (sub (hp' ps i).1 cx) (sub (hp' ps i).2 cy) (sub (hp' ps i).1 cx) (sub (hp' ps i).2 cy) + dot (sub (hp' ps i).1 cx) (sub (hp' ps i).2 cy) (sub (hp' ps (i + 1)).1 cx) (sub (hp' ps (i + 1)).2 cy) + dot (sub (hp' ps (i + 1)).1 cx) (sub (hp' ps (i + 1)).2 cy) (sub (hp' ps (i + 1)).1 cx) (sub (hp' ps (i + 1)).2 cy)
def sumB (ps : List Pt) (cx cy : Int) : Nat → Int
  | 0 => 0
  | k + 1 => sumB ps cx cy k + kkI ps cx cy k
def sumA (ps : List Pt) (cx cy : Int) : Nat → Int
  | 0 => 0
  | k + 1 => sumA ps cx cy k + kkI ps cx cy k * ddI ps cx cy k
def pin (ps : List Pt) (cx cy m : Int) : Int := if sumB ps cx cy ps.length < 1 then 0 else mul m (rdiv (rdiv (sumA ps cx cy ps.length) (sumB ps cx cy ps.length)) 6)
def disk (R : Int) : Int := mul 205888 (mul R R)
def capl (ps : List Pt) : Int := vlen (sub (hp' ps 1).1 (hp' ps 0).1) (sub (hp' ps 1).2 (hp' ps 0).2)
def capm (R : Int) (ps : List Pt) (D : Int) : Int := mul (add (disk R) (mul (add R R) (capl ps))) D
/-- OfShape. -/
def ofS (K R : Int) (ps : List Pt) (D : Int) : Md :=
  if valS K R ps ≠ 0 ∨ D < 0 ∨ 262144 < D then Md.zero
  else if K = 1 then ⟨mul (disk R) D, (hp' ps 0).1, (hp' ps 0).2, mul (mul (disk R) D) (rdiv (mul R R) 2)⟩
  else if K = 2 then ⟨capm R ps D, lerp (hp' ps 0).1 (hp' ps 1).1 32768, lerp (hp' ps 0).2 (hp' ps 1).2 32768, mul (capm R ps D) (add (rdiv (mul R R) 2) (rdiv (mul (capl ps) (capl ps)) 12))⟩
  else ⟨mul (areaP ps) D, (cenP ps).1, (cenP ps).2, pin ps (cenP ps).1 (cenP ps).2 (mul (areaP ps) D)⟩

/-! ### Combination -/
def cmass (l : List Md) : Int := l.foldl (fun s p => add s (sat p.m)) 0
def csum (l : List Md) : Int := l.foldl (fun s p => s + sat p.m) 0
def cmx (l : List Md) : Int := l.foldl (fun s p => s + sat p.m * sat p.x) 0
def cmy (l : List Md) : Int := l.foldl (fun s p => s + sat p.m * sat p.y) 0
def ccx (l : List Md) : Int := if 0 < csum l then rdiv (cmx l) (csum l) else 0
def ccy (l : List Md) : Int := if 0 < csum l then rdiv (cmy l) (csum l) else 0
def cin (cx cy : Int) (l : List Md) : Int := l.foldl (fun s p => add (add s p.i) (mul p.m (dot (sub p.x cx) (sub p.y cy) (sub p.x cx) (sub p.y cy)))) 0
def comb (l : List Md) : Md := if 8 < l.length ∨ ∃ p ∈ l, p.m < 0 then Md.zero else ⟨cmass l, ccx l, ccy l, cin (ccx l) (ccy l) l⟩
/-- Inverse. -/
def invM (M k : Int) : Int := if k ≠ 3 then 0 else if 1 ≤ M then quo 65536 M else 65536
def invI (I k : Int) (f : Bool) : Int := if k ≠ 3 then 0 else if f = false ∧ 1 ≤ I then quo 65536 I else 0

theorem rdiv_nn {n d : Int} (h : 0 ≤ n) : 0 ≤ rdiv n d := by
  unfold rdiv
  split
  · rename_i hk
    unfold rok at hk
    simp only [Bool.and_eq_true, decide_eq_true_eq] at hk
    unfold rcore; rw [if_neg (by omega)]; unfold rpos
    have := Int.ediv_nonneg h (show 0 ≤ d by omega)
    split <;> omega
  · exact Int.le_refl _
theorem sat_nn {x : Int} (h : 0 ≤ x) : 0 ≤ sat x := by unfold sat; split <;> (try split) <;> omega
theorem mul_nn {a b : Int} (ha : 0 ≤ a) (hb : 0 ≤ b) : 0 ≤ mul a b := by unfold mul; exact sat_nn (rdiv_nn (Int.mul_nonneg (sat_nn ha) (sat_nn hb)))
theorem add_nn {a b : Int} (ha : 0 ≤ a) (hb : 0 ≤ b) : 0 ≤ add a b := by unfold add; exact sat_nn (by have := sat_nn ha; have := sat_nn hb; omega)
theorem rdiv_pos_eq {n : Int} (h0 : 0 ≤ n) (hm : n ≤ 4611686018427387904) : rdiv n 65536 = (n + 32768) / 65536 := by
  rw [rdiv_in (by omega) (by omega) (by omega) (by omega)]
  have e : rcore n 65536 = rpos n 65536 := if_neg (by omega)
  rw [e]; unfold rpos
  split <;> omega
theorem rdiv_mono {n m : Int} (h0 : 0 ≤ n) (h : n ≤ m) (hm : m ≤ 4611686018427387904) : rdiv n 65536 ≤ rdiv m 65536 := by
  rw [rdiv_pos_eq h0 (by omega), rdiv_pos_eq (by omega) hm]; omega
theorem mul_mono {x a b : Int} (hx : 0 ≤ x) (ha : 0 ≤ a) (h : a ≤ b) : mul x a ≤ mul x b := by
  unfold mul
  have s0 := sat_nn hx
  have s1 := sat_nn ha
  have s2 := sat_mono h
  have u := sat_le x
  have v := sat_le b
  refine sat_mono (rdiv_mono (Int.mul_nonneg s0 s1) (Int.mul_le_mul_of_nonneg_left s2 s0) ?_)
  have := mul_between (a := sat x) (b := sat b) (A := 536870911) (B := 536870911) (by omega) u (by omega) v
  omega
theorem mul_mono2 {x y c : Int} (hx : 0 ≤ x) (hc : 0 ≤ c) (h : x ≤ y) : mul x c ≤ mul y c := by
  have e : ∀ a b, mul a b = mul b a := fun a b => by unfold mul; rw [Int.mul_comm]
  rw [e x, e y]; exact mul_mono hc hx h
theorem quo_nn {M : Int} (h : 1 ≤ M) : 0 ≤ quo 65536 M := by
  unfold quo; rw [if_neg (by omega), if_neg (by omega)]
  exact sat_nn (rdiv_nn (by decide))
theorem invM_nn (M k : Int) : 0 ≤ invM M k := by
  unfold invM; split
  · omega
  · split
    · rename_i h; exact quo_nn h
    · omega
theorem invI_nn (I k : Int) (f : Bool) : 0 ≤ invI I k f := by
  unfold invI; split
  · omega
  · split
    · rename_i h; exact quo_nn h.2
    · omega

/-! ### The inertia of a polygon is not negative -/
theorem crs_nn {ps : List Pt} (h : cvxP ps) (k : Nat) : 0 ≤ crs ps (k + 1) := by
  have hc : crs ps (k + 1) = rdiv (dt (hp' ps 0) (hp' ps (k + 1)) (hp' ps (k + 2))) 65536 := rfl
  rw [hc]
  refine rdiv_nn ?_
  have := dt_nonneg h (k + 1) 0
  have e : dt (hp' ps 0) (hp' ps (k + 1)) (hp' ps (k + 2)) = dt (hp' ps (k + 1)) (hp' ps (k + 1 + 1)) (hp' ps 0) := by show dt (hp' ps 0) (hp' ps (k + 1)) (hp' ps (k + 2)) = dt (hp' ps (k + 1)) (hp' ps (k + 2)) (hp' ps 0); unfold dt; grind
  rw [e]; exact this
theorem cen_sum {ps : List Pt} (h : cvxP ps) : ∀ k : Nat, 0 ≤ crsS ps k ∧ (-(4194304 * crsS ps k) ≤ cenX ps k ∧ cenX ps k ≤ 4194304 * crsS ps k) ∧ -(4194304 * crsS ps k) ≤ cenY ps k ∧ cenY ps k ≤ 4194304 * crsS ps k
  | 0 => by unfold crsS cenX cenY; omega
  | k + 1 => by
    have ih := cen_sum h k
    have h0 : 0 < ps.length := by have := h.1; omega
    have i0 := h.2.2.1 _ (hp_mem (h := ps) 0 h0)
    have i1 := h.2.2.1 _ (hp_mem (h := ps) (k + 1) h0)
    have i2 := h.2.2.1 _ (hp_mem (h := ps) (k + 2) h0)
    have hc := crs_nn h k
    unfold inrP at i0 i1 i2
    unfold crsS cenX cenY
    generalize crs ps (k + 1) = c at *
    have q1 := mul_between (a := (hp' ps (k + 1)).1 - (hp' ps 0).1 + (hp' ps (k + 2)).1 - (hp' ps 0).1) (b := c) (A := 4194304) (B := c) (by omega) (by omega) (by omega) (by omega)
    have q2 := mul_between (a := (hp' ps (k + 1)).2 - (hp' ps 0).2 + (hp' ps (k + 2)).2 - (hp' ps 0).2) (b := c) (A := 4194304) (B := c) (by omega) (by omega) (by omega) (by omega)
    omega
theorem cen_near {ps : List Pt} (h : cvxP ps) : (-2446678 ≤ (cenP ps).1 ∧ (cenP ps).1 ≤ 2446678) ∧ -2446678 ≤ (cenP ps).2 ∧ (cenP ps).2 ≤ 2446678 := by
  have h0 : 0 < ps.length := by have := h.1; omega
  have i0 := h.2.2.1 _ (hp_mem (h := ps) 0 h0)
  unfold inrP at i0
  unfold cenP
  rw [if_pos (cvx_iff.2 h)]
  split
  · omega
  · rename_i hW
    obtain ⟨c0, ⟨c1, c2⟩, c3, c4⟩ := cen_sum h (ps.length - 2)
    have hup : crsS ps (ps.length - 2) ≤ 1000000000000 := by
      have hn := crsS_near h (ps.length - 2)
      have h8 := h.2.1
      have hf : ∀ k : Nat, fan (hp' ps) k ≤ 17592186044416 * k := fun k => by
        induction k with
        | zero => unfold fan; omega
        | succ k ih =>
          have j0 := h.2.2.1 _ (hp_mem (h := ps) 0 h0)
          have j1 := h.2.2.1 _ (hp_mem (h := ps) (k + 1) h0)
          have j2 := h.2.2.1 _ (hp_mem (h := ps) (k + 2) h0)
          unfold inrP at j0 j1 j2
          unfold fan dt
          have p1 := mul_between (a := (hp' ps (k + 1)).1 - (hp' ps 0).1) (b := (hp' ps (k + 2)).2 - (hp' ps 0).2) (A := 2097152) (B := 2097152) (by omega) (by omega) (by omega) (by omega)
          have p2 := mul_between (a := (hp' ps (k + 1)).2 - (hp' ps 0).2) (b := (hp' ps (k + 2)).1 - (hp' ps 0).1) (A := 2097152) (B := 2097152) (by omega) (by omega) (by omega) (by omega)
          omega
      have := hf (ps.length - 2)
      omega
    generalize crsS ps (ps.length - 2) = W at *
    have dX := rdiv_lo (q := 0) (n := cenX ps (ps.length - 2)) (d := 3 * W) (by omega) (by omega) (by omega) (by omega)
    have dY := rdiv_lo (q := 0) (n := cenY ps (ps.length - 2)) (d := 3 * W) (by omega) (by omega) (by omega) (by omega)
    have one : ∀ c r : Int, -(4194304 * W) ≤ c → c ≤ 4194304 * W → 2 * (c - r * (3 * W)) ≤ 3 * W → 2 * (r * (3 * W) - c) ≤ 3 * W → -1398102 ≤ r ∧ r ≤ 1398102 := fun c r g1 g2 g3 g4 => by
      constructor
      · by_cases hh : -1398102 ≤ r
        · exact hh
        have := Int.mul_le_mul_of_nonneg_right (a := r) (b := -1398103) (c := 3 * W) (by omega) (by omega)
        omega
      · by_cases hh : r ≤ 1398102
        · exact hh
        have := Int.mul_le_mul_of_nonneg_right (a := 1398103) (b := r) (c := 3 * W) (by omega) (by omega)
        omega
    have o1 := one _ _ c1 c2 dX.1 dX.2
    have o2 := one _ _ c3 c4 dY.1 dY.2
    dsimp only
    omega
theorem kk_nn {ps : List Pt} (h : cvxP ps) (hA : 256 ≤ areaP ps) (i : Nat) : 0 ≤ kkI ps (cenP ps).1 (cenP ps).2 i := by
  have h0 : 0 < ps.length := by have := h.1; omega
  have i1 := h.2.2.1 _ (hp_mem (h := ps) i h0)
  have i2 := h.2.2.1 _ (hp_mem (h := ps) (i + 1) h0)
  have hc := cen_near h
  have hl := cen_left h hA i
  unfold inrP at i1 i2
  unfold kkI cross
  rw [sub_in ⟨by omega, by omega⟩ ⟨by omega, by omega⟩ ⟨by omega, by omega⟩, sub_in ⟨by omega, by omega⟩ ⟨by omega, by omega⟩ ⟨by omega, by omega⟩, sub_in ⟨by omega, by omega⟩ ⟨by omega, by omega⟩ ⟨by omega, by omega⟩, sub_in ⟨by omega, by omega⟩ ⟨by omega, by omega⟩ ⟨by omega, by omega⟩]
  rw [sat_id (x := (hp' ps i).1 - (cenP ps).1) (by omega) (by omega), sat_id (x := (hp' ps i).2 - (cenP ps).2) (by omega) (by omega), sat_id (x := (hp' ps (i + 1)).1 - (cenP ps).1) (by omega) (by omega), sat_id (x := (hp' ps (i + 1)).2 - (cenP ps).2) (by omega) (by omega)]
  refine sat_nn (rdiv_nn ?_)
  have e : ((hp' ps i).1 - (cenP ps).1) * ((hp' ps (i + 1)).2 - (cenP ps).2) - ((hp' ps i).2 - (cenP ps).2) * ((hp' ps (i + 1)).1 - (cenP ps).1) = dt (hp' ps i) (hp' ps (i + 1)) (cenP ps) := by unfold dt; grind
  rw [e]; exact hl
theorem edge_long {ps : List Pt} (h : cvxP ps) (hs : 4096 ≤ shortP ps) (i : Nat) : 16777216 ≤ ((hp' ps (i + 1)).1 - (hp' ps i).1) * ((hp' ps (i + 1)).1 - (hp' ps i).1) + ((hp' ps (i + 1)).2 - (hp' ps i).2) * ((hp' ps (i + 1)).2 - (hp' ps i).2) := by
  have h0 : 0 < ps.length := by have := h.1; omega
  have i1 := h.2.2.1 _ (hp_mem (h := ps) i h0)
  have i2 := h.2.2.1 _ (hp_mem (h := ps) (i + 1) h0)
  unfold inrP at i1 i2
  unfold shortP at hs
  rw [if_pos (cvx_iff.2 h)] at hs
  have hm := (shr_min ps ps.length h0).2 (i % ps.length) (Nat.mod_lt i h0)
  have e : edg ps (i % ps.length) = edg ps i := by unfold edg; rw [(hp_mod1 ps i).1, (hp_mod1 ps i).2]
  rw [e] at hm
  unfold edg at hm
  obtain ⟨v0, _, v1, _⟩ := vlen_is (sub (hp' ps (i + 1)).1 (hp' ps i).1) (sub (hp' ps (i + 1)).2 (hp' ps i).2)
  rw [sub_in ⟨by omega, by omega⟩ ⟨by omega, by omega⟩ ⟨by omega, by omega⟩, sub_in ⟨by omega, by omega⟩ ⟨by omega, by omega⟩ ⟨by omega, by omega⟩] at *
  rw [sat_id (x := (hp' ps (i + 1)).1 - (hp' ps i).1) (by omega) (by omega), sat_id (x := (hp' ps (i + 1)).2 - (hp' ps i).2) (by omega) (by omega)] at v1
  have : (4096 : Int) * 4096 ≤ vlen ((hp' ps (i + 1)).1 - (hp' ps i).1) ((hp' ps (i + 1)).2 - (hp' ps i).2) * vlen ((hp' ps (i + 1)).1 - (hp' ps i).1) ((hp' ps (i + 1)).2 - (hp' ps i).2) := Int.mul_le_mul (by omega) (by omega) (by omega) (by omega)
  omega
theorem dd_core {a b c d : Int} (ha : -3495254 ≤ a ∧ a ≤ 3495254) (hb : -3495254 ≤ b ∧ b ≤ 3495254) (hc : -3495254 ≤ c ∧ c ≤ 3495254) (hd : -3495254 ≤ d ∧ d ≤ 3495254) (hl : 16777216 ≤ (c - a) * (c - a) + (d - b) * (d - b)) : 0 ≤ dot a b a b + dot a b c d + dot c d c d := by
  unfold dot
  rw [sat_id (x := a) (by omega) (by omega), sat_id (x := b) (by omega) (by omega), sat_id (x := c) (by omega) (by omega), sat_id (x := d) (by omega) (by omega)]
  have m1 := mul_between ha.1 ha.2 ha.1 ha.2
  have m2 := mul_between hb.1 hb.2 hb.1 hb.2
  have m3 := mul_between ha.1 ha.2 hc.1 hc.2
  have m4 := mul_between hb.1 hb.2 hd.1 hd.2
  have m5 := mul_between hc.1 hc.2 hc.1 hc.2
  have m6 := mul_between hd.1 hd.2 hd.1 hd.2
  have r1 := rdiv_lo (q := 0) (n := a * a + b * b) (d := 65536) (by omega) (by omega) (by omega) (by omega)
  have r2 := rdiv_lo (q := 0) (n := a * c + b * d) (d := 65536) (by omega) (by omega) (by omega) (by omega)
  have r3 := rdiv_lo (q := 0) (n := c * c + d * d) (d := 65536) (by omega) (by omega) (by omega) (by omega)
  rw [sat_id (x := rdiv (a * a + b * b) 65536) (by omega) (by omega), sat_id (x := rdiv (a * c + b * d) 65536) (by omega) (by omega), sat_id (x := rdiv (c * c + d * d) 65536) (by omega) (by omega)]
  have id : 4 * (a * a + b * b + (a * c + b * d) + (c * c + d * d)) = 3 * ((a + c) * (a + c) + (b + d) * (b + d)) + ((c - a) * (c - a) + (d - b) * (d - b)) := by grind
  have s1 := sq_nn (a + c)
  have s2 := sq_nn (b + d)
  omega
theorem dd_nn {ps : List Pt} (h : cvxP ps) (hs : 4096 ≤ shortP ps) (i : Nat) : 0 ≤ ddI ps (cenP ps).1 (cenP ps).2 i := by
  have h0 : 0 < ps.length := by have := h.1; omega
  have i1 := h.2.2.1 _ (hp_mem (h := ps) i h0)
  have i2 := h.2.2.1 _ (hp_mem (h := ps) (i + 1) h0)
  have hc := cen_near h
  have hl := edge_long h hs i
  unfold inrP at i1 i2
  unfold ddI
  rw [sub_in ⟨by omega, by omega⟩ ⟨by omega, by omega⟩ ⟨by omega, by omega⟩, sub_in ⟨by omega, by omega⟩ ⟨by omega, by omega⟩ ⟨by omega, by omega⟩, sub_in ⟨by omega, by omega⟩ ⟨by omega, by omega⟩ ⟨by omega, by omega⟩, sub_in ⟨by omega, by omega⟩ ⟨by omega, by omega⟩ ⟨by omega, by omega⟩]
  refine dd_core ⟨by omega, by omega⟩ ⟨by omega, by omega⟩ ⟨by omega, by omega⟩ ⟨by omega, by omega⟩ ?_
  rw [show (hp' ps (i + 1)).1 - (cenP ps).1 - ((hp' ps i).1 - (cenP ps).1) = (hp' ps (i + 1)).1 - (hp' ps i).1 from by omega, show (hp' ps (i + 1)).2 - (cenP ps).2 - ((hp' ps i).2 - (cenP ps).2) = (hp' ps (i + 1)).2 - (hp' ps i).2 from by omega]
  exact hl
theorem sumA_nn {ps : List Pt} (h : cvxP ps) (hA : 256 ≤ areaP ps) (hs : 4096 ≤ shortP ps) : ∀ k, 0 ≤ sumA ps (cenP ps).1 (cenP ps).2 k
  | 0 => Int.le_refl _
  | k + 1 => by
    have := sumA_nn h hA hs k
    have := Int.mul_nonneg (kk_nn h hA k) (dd_nn h hs k)
    unfold sumA; omega

theorem ofS_no {K R : Int} {ps : List Pt} {D : Int} (h : valS K R ps ≠ 0 ∨ D < 0 ∨ 262144 < D) : ofS K R ps D = Md.zero := if_pos h
theorem ofS_1 {K R : Int} {ps : List Pt} {D : Int} (h : valS K R ps = 0) (h0 : 0 ≤ D) (h1 : D ≤ 262144) (hK : K = 1) : ofS K R ps D = ⟨mul (disk R) D, (hp' ps 0).1, (hp' ps 0).2, mul (mul (disk R) D) (rdiv (mul R R) 2)⟩ := by
  unfold ofS; rw [if_neg (by omega), if_pos hK]
theorem ofS_2 {K R : Int} {ps : List Pt} {D : Int} (h : valS K R ps = 0) (h0 : 0 ≤ D) (h1 : D ≤ 262144) (hK : K = 2) : ofS K R ps D = ⟨capm R ps D, lerp (hp' ps 0).1 (hp' ps 1).1 32768, lerp (hp' ps 0).2 (hp' ps 1).2 32768, mul (capm R ps D) (add (rdiv (mul R R) 2) (rdiv (mul (capl ps) (capl ps)) 12))⟩ := by
  unfold ofS; rw [if_neg (by omega), if_neg (by omega), if_pos hK]
theorem ofS_3 {K R : Int} {ps : List Pt} {D : Int} (h : valS K R ps = 0) (h0 : 0 ≤ D) (h1 : D ≤ 262144) (hK : K = 3) : ofS K R ps D = ⟨mul (areaP ps) D, (cenP ps).1, (cenP ps).2, pin ps (cenP ps).1 (cenP ps).2 (mul (areaP ps) D)⟩ := by
  unfold ofS; rw [if_neg (by omega), if_neg (by omega), if_neg (by omega)]
theorem pol_ok {K R : Int} {ps : List Pt} (h : valS K R ps = 0) (hK : K = 3) : cvxP ps ∧ 256 ≤ areaP ps ∧ 4096 ≤ shortP ps := by
  obtain ⟨_, _, _, _, _, hp⟩ := valS_zero.1 h
  unfold polbad at hp
  simp only [hK, decide_true, Bool.true_and, Bool.or_eq_false_iff, Bool.not_eq_false', decide_eq_false_iff_not] at hp
  exact ⟨cvx_iff.1 hp.1.1, by omega, by omega⟩
/-- More density, no less mass and no less inertia. -/
theorem ofS_mono (K R : Int) (ps : List Pt) {a b : Int} (h0 : 0 ≤ a) (h1 : a ≤ b) (h2 : b ≤ 262144) :
    0 ≤ (ofS K R ps a).m ∧ (ofS K R ps a).m ≤ (ofS K R ps b).m ∧ 0 ≤ (ofS K R ps a).i ∧ (ofS K R ps a).i ≤ (ofS K R ps b).i ∧ (ofS K R ps a).x = (ofS K R ps b).x ∧ (ofS K R ps a).y = (ofS K R ps b).y := by
  by_cases hv : valS K R ps = 0
  rotate_left
  · rw [ofS_no (.inl hv), ofS_no (.inl hv)]; decide
  have core : ∀ G C : Int, 0 ≤ G → 0 ≤ C → 0 ≤ mul G a ∧ mul G a ≤ mul G b ∧ 0 ≤ mul (mul G a) C ∧ mul (mul G a) C ≤ mul (mul G b) C := fun G C hG hC =>
    ⟨mul_nn hG h0, mul_mono hG h0 h1, mul_nn (mul_nn hG h0) hC, mul_mono2 (mul_nn hG h0) hC (mul_mono hG h0 h1)⟩
  have hK := (valS_zero.1 hv).1
  have hr := val_rad hv
  have hq : 0 ≤ mul R R := mul_nn hr.1 hr.1
  have hdk : 0 ≤ disk R := mul_nn (by decide) hq
  rcases (by omega : K = 1 ∨ K = 2 ∨ K = 3) with hK | hK | hK
  · rw [ofS_1 hv h0 (by omega) hK, ofS_1 hv (by omega) h2 hK]
    obtain ⟨g1, g2, g3, g4⟩ := core (disk R) (rdiv (mul R R) 2) hdk (rdiv_nn hq)
    exact ⟨g1, g2, g3, g4, rfl, rfl⟩
  · have hl : 0 ≤ capl ps := (vlen_is _ _).1
    rw [ofS_2 hv h0 (by omega) hK, ofS_2 hv (by omega) h2 hK]
    obtain ⟨g1, g2, g3, g4⟩ := core (add (disk R) (mul (add R R) (capl ps))) (add (rdiv (mul R R) 2) (rdiv (mul (capl ps) (capl ps)) 12)) (add_nn hdk (mul_nn (add_nn hr.1 hr.1) hl)) (add_nn (rdiv_nn hq) (rdiv_nn (mul_nn hl hl)))
    exact ⟨g1, g2, g3, g4, rfl, rfl⟩
  · obtain ⟨hc, ha, hs⟩ := pol_ok hv hK
    have hA := sumA_nn hc ha hs ps.length
    rw [ofS_3 hv h0 (by omega) hK, ofS_3 hv (by omega) h2 hK]
    obtain ⟨g1, g2, g3, g4⟩ := core (areaP ps) (rdiv (rdiv (sumA ps (cenP ps).1 (cenP ps).2 ps.length) (sumB ps (cenP ps).1 (cenP ps).2 ps.length)) 6) (by omega) (rdiv_nn (rdiv_nn hA))
    refine ⟨g1, g2, ?_, ?_, rfl, rfl⟩
    · unfold pin; dsimp only; split
      · exact Int.le_refl _
      · exact g3
    · unfold pin; dsimp only; split
      · exact Int.le_refl _
      · exact g4

/-! ### A combination weighs no less than its parts -/
theorem cmass_ge : ∀ (l : List Md) (s : Int), 0 ≤ s → s ≤ 536870911 → (∀ p ∈ l, 0 ≤ p.m ∧ p.m ≤ 536870911) → s ≤ l.foldl (fun s p => add s (sat p.m)) s ∧ (∀ p ∈ l, p.m ≤ l.foldl (fun s p => add s (sat p.m)) s)
  | [], s, _, _, _ => ⟨Int.le_refl _, fun p hp => by cases hp⟩
  | q :: l, s, h0, h1, h => by
    have hq := h q (List.mem_cons_self ..)
    have e : sat q.m = q.m := sat_id (by omega) (by omega)
    have hs : s ≤ add s (sat q.m) ∧ q.m ≤ add s (sat q.m) ∧ add s (sat q.m) ≤ 536870911 := by
      rw [e]; unfold add; rw [sat_id (x := s) (by omega) (by omega), e]
      unfold sat; split <;> (try split) <;> omega
    obtain ⟨g1, g2⟩ := cmass_ge l (add s (sat q.m)) (by omega) hs.2.2 fun p hp => h p (List.mem_cons_of_mem _ hp)
    rw [List.foldl_cons]
    refine ⟨by omega, fun p hp => ?_⟩
    rcases List.mem_cons.1 hp with rfl | hp
    · omega
    · exact g2 p hp
theorem comb_ge {l : List Md} (h8 : l.length ≤ 8) (h : ∀ p ∈ l, 0 ≤ p.m ∧ p.m ≤ 536870911) : ∀ p ∈ l, p.m ≤ (comb l).m := fun p hp => by
  unfold comb
  rw [if_neg (by rintro (g | ⟨q, hq, g⟩)
                 · omega
                 · have := h q hq; omega)]
  exact (cmass_ge l 0 (by omega) (by omega) h).2 p hp
theorem comb_one {p : Md} (h0 : 0 ≤ p.m) (h1 : p.m ≤ 536870911) : (comb [p]).m = p.m := by
  unfold comb
  rw [if_neg (by rintro (g | ⟨q, hq, g⟩)
                 · simp at g
                 · simp at hq; subst hq; omega)]
  show add 0 (sat p.m) = p.m
  rw [sat_id (x := p.m) (by omega) (by omega), add_in ⟨by omega, by omega⟩ ⟨by omega, by omega⟩ ⟨by omega, by omega⟩]; omega
theorem comb_nil : comb [] = Md.zero := by
  unfold comb; rw [if_neg (by simp)]; rfl

end Go.Proofs.YtaahgblkmajceaaGreat.Fx
