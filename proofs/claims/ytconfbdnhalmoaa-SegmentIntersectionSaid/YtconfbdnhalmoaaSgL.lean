/- Plain mathematics of segments, continued: how far the computed closest point may be away; the statement of end points. No program is imported. -/
import Derived.Test.YtconfbdnhalmoaaSg
set_option linter.unusedVariables false
namespace Go.Proofs.Ytconfbdnhalmoaa.Fx

/-- What is known of a ratio's error, for either end. -/
theorem ratio_err {n l : Int} (hl0 : 0 ≤ l) (hl1 : l ≤ 4611686018427387904) (hn0 : -4611686018427387904 ≤ n) (hn1 : n ≤ 4611686018427387904) (hz : l = 0 → n = 0) :
    ratio n l * (ratio n l * l - 131072 * n) < 4294967296 ∧ (65536 - ratio n l) * ((65536 - ratio n l) * l - 131072 * (l - n)) < 4294967296 := by
  have key : ∀ {k x : Int}, 0 ≤ k → (k = 0 ∨ x ≤ 0 ∨ (k = 1 ∧ x < 4294967296)) → k * x < 4294967296 := fun {k x} hk h => by
    rcases h with rfl | h | ⟨rfl, h⟩
    · simp
    · have := Int.mul_nonpos_of_nonneg_of_nonpos hk h; omega
    · omega
  have e2 : ∀ k : Int, (65536 - k) * l - 131072 * (l - n) = 131072 * n - k * l - 65536 * l := fun k => by rw [Int.sub_mul]; omega
  by_cases h0 : l < 1 ∨ 4611686018427387904 < l ∨ n < 1
  · rw [ratio_out h0, e2]
    refine ⟨by simp, key (by omega) ?_⟩
    right; left
    by_cases h : l = 0
    · have := hz h; omega
    · omega
  by_cases h1 : l ≤ n
  · rw [ratio_one (by omega) (by omega) (by omega) h1]
    exact ⟨key (by omega) (.inr (.inl (by omega))), by simp⟩
  by_cases h2 : l < 70368744177664
  · obtain ⟨g0, g1⟩ := ratio_in n l
    rw [ratio_low (by omega) (by omega) (by omega) h2, rdiv_in (by omega) (by omega) (by omega) (by omega)] at *
    have hr := rcore_near (n := n * 65536) (d := l) (by omega)
    rw [e2]
    generalize rcore (n * 65536) l = k at *
    constructor
    · refine key g0 ?_
      by_cases hk : k = 0
      · exact .inl hk
      · right; left
        have : 1 * l ≤ k * l := Int.mul_le_mul_of_nonneg_right (by omega) (by omega)
        omega
    · refine key (by omega) ?_
      by_cases hk : k = 65536
      · exact .inl (by omega)
      · right; left
        have : k * l ≤ 65535 * l := Int.mul_le_mul_of_nonneg_right (by omega) (by omega)
        omega
  · obtain ⟨g0, g1⟩ := ratio_in n l
    have hR := rcore_near (n := l) (d := 65536) (by omega)
    have eR : rdiv l 65536 = rcore l 65536 := rdiv_in (by omega) (by omega) (by omega) (by omega)
    have e : ratio n l = min 65536 (rdiv n (rcore l 65536)) := by rw [ratio_high (by omega) (by omega) (by omega) (by omega), eR]
    generalize rcore l 65536 = R at *
    rw [rdiv_in (by omega) (by omega) (by omega) (by omega)] at e
    have hr := rcore_near (n := n) (d := R) (by omega)
    have hk : rcore n R ≤ 65536 := by
      false_or_by_contra
      have : 65537 * R ≤ rcore n R * R := Int.mul_le_mul_of_nonneg_right (by omega) (by omega)
      omega
    rw [show min 65536 (rcore n R) = rcore n R from by omega] at e
    rw [e] at g0 g1 ⊢
    rw [e2]
    clear e hk eR e2 h0 h1
    generalize rcore n R = k at *
    -- k * l against k * R
    have m1 : k * l ≤ k * (R * 65536 + 32768) := Int.mul_le_mul_of_nonneg_left (by omega) g0
    have m2 : k * (R * 65536 - 32768) ≤ k * l := Int.mul_le_mul_of_nonneg_left (by omega) g0
    have x1 : k * (R * 65536 + 32768) = k * R * 65536 + k * 32768 := by rw [Int.mul_add, Int.mul_assoc]
    have x2 : k * (R * 65536 - 32768) = k * R * 65536 - k * 32768 := by rw [Int.mul_sub, Int.mul_assoc]
    rw [x1] at m1
    rw [x2] at m2
    constructor
    · refine key g0 ?_
      by_cases hk0 : k = 0
      · exact .inl hk0
      by_cases hk1 : k = 1
      · subst hk1; right; right; exact ⟨rfl, by omega⟩
      · right; left
        have : 2 * R ≤ k * R := Int.mul_le_mul_of_nonneg_right (by omega) (by omega)
        omega
    · refine key (by omega) ?_
      by_cases hk0 : k = 65536
      · exact .inl (by omega)
      by_cases hk1 : k = 65535
      · subst hk1; right; right; exact ⟨by omega, by omega⟩
      · right; left
        have : k * R ≤ 65534 * R := Int.mul_le_mul_of_nonneg_right (by omega) (by omega)
        omega

/-- An error of at most one and a half in each component: the distance is less than four greater. -/
theorem end_core {ux uy wx wy k ex ey gx gy L : Int} (hr : k * (k * (wx * wx + wy * wy) - 131072 * (ux * wx + uy * wy)) < 4294967296) (ex0 : -98304 ≤ ex) (ex1 : ex ≤ 98304) (ey0 : -98304 ≤ ey) (ey1 : ey ≤ 98304)
    (hx : 65536 * gx = 65536 * ux - k * wx - ex) (hy : 65536 * gy = 65536 * uy - k * wy - ey) (hL0 : 0 ≤ L) (hL : ux * ux + uy * uy < (L + 1) * (L + 1)) : gx * gx + gy * gy < (L + 5) * (L + 5) := by
  obtain ⟨X, hX⟩ : ∃ X, 65536 * ux - k * wx = X := ⟨_, rfl⟩
  obtain ⟨Y, hY⟩ : ∃ Y, 65536 * uy - k * wy = Y := ⟨_, rfl⟩
  have hV : X * X + Y * Y = 4294967296 * (ux * ux + uy * uy) + k * (k * (wx * wx + wy * wy) - 131072 * (ux * wx + uy * wy)) := by rw [← hX, ← hY]; grind
  rw [hX] at hx
  rw [hY] at hy
  obtain ⟨M, hM⟩ : ∃ M, 65536 * (L + 1) = M := ⟨_, rfl⟩
  have hM2 : M * M = 4294967296 * ((L + 1) * (L + 1)) := by rw [← hM]; grind
  have hXY : X * X + Y * Y < M * M := by omega
  have hx2 := sq_nn X
  have hy2 := sq_nn Y
  have bX : ∀ Z : Int, Z * Z < M * M → -M ≤ Z ∧ Z ≤ M := fun Z hZ => by
    constructor
    · false_or_by_contra
      have : M * M ≤ (-Z) * (-Z) := Int.mul_le_mul (by omega) (by omega) (by omega) (by omega)
      rw [Int.neg_mul_neg] at this; omega
    · false_or_by_contra
      have : M * M ≤ Z * Z := Int.mul_le_mul (by omega) (by omega) (by omega) (by omega)
      omega
  obtain ⟨a0, a1⟩ := bX X (by omega)
  obtain ⟨b0, b1⟩ := bX Y (by omega)
  have p1 := mul_between (a := X) (b := ex) (A := M) (B := 98304) (by omega) (by omega) (by omega) (by omega)
  have p2 := mul_between (a := Y) (b := ey) (A := M) (B := 98304) (by omega) (by omega) (by omega) (by omega)
  have p3 := mul_between (a := ex) (b := ex) (A := 98304) (B := 98304) (by omega) (by omega) (by omega) (by omega)
  have p4 := mul_between (a := ey) (b := ey) (A := 98304) (B := 98304) (by omega) (by omega) (by omega) (by omega)
  have q : 4294967296 * (gx * gx + gy * gy) = X * X + Y * Y - 2 * (X * ex) - 2 * (Y * ey) + ex * ex + ey * ey := by
    have h1 : 4294967296 * (gx * gx + gy * gy) = (65536 * gx) * (65536 * gx) + (65536 * gy) * (65536 * gy) := by grind
    rw [h1, hx, hy]; grind
  have z : (L + 5) * (L + 5) = (L + 1) * (L + 1) + 8 * (L + 1) + 16 := by grind
  rw [z]
  have hM3 : M * 98304 = 6442450944 * (L + 1) := by rw [← hM]; omega
  omega

/-- The computed closest point, component by component, and its error. -/
theorem cpc_err {t a b : Int} (h0 : 0 ≤ t) (h1 : t ≤ 65536) (a0 : -268435456 ≤ a) (a1 : a ≤ 268435456) (b0 : -268435456 ≤ b) (b1 : b ≤ 268435456) :
    ∃ e, -98304 ≤ e ∧ e ≤ 98304 ∧ 65536 * cpc t a b = 65536 * a + t * (b - a) + e := by
  have sa := sat_id (x := a) (by omega) (by omega)
  have sb := sat_id (x := b) (by omega) (by omega)
  by_cases t0 : t = 0
  · subst t0; rw [cpc_zero, sa]; exact ⟨0, by omega, by omega, by omega⟩
  by_cases t1 : t = 65536
  · subst t1; rw [cpc_one, sb]; exact ⟨0, by omega, by omega, by omega⟩
  rw [cpc_mid t0 t1]
  obtain ⟨r, hr, r0, r1, r2, r3⟩ := lerp_at (a := a) (b := b) h0 h1
  obtain ⟨m0, m1⟩ := lerp_between (a := a) (b := b) h0 h1
  have hD : sub b a = sat (b - a) := by unfold sub; rw [sa, sb]
  have hl : lerp a b t = a + r := by
    rw [sa] at hr
    by_cases h : -536870911 ≤ a + r ∧ a + r ≤ 536870911
    · rw [hr, sat_id h.1 h.2]
    · rw [sa, sb] at m0 m1
      have : sat (a + r) = 536870911 ∨ sat (a + r) = -536870911 := by unfold sat; split <;> (try split) <;> omega
      omega
  rw [hl]
  have hd : sub b a = b - a ∨ (sub b a = b - a - 1) ∨ (sub b a = b - a + 1) := by rw [hD]; unfold sat; split <;> (try split) <;> omega
  refine ⟨65536 * r - t * (b - a), ?_, ?_, by omega⟩
  all_goals
    rcases hd with hd | hd | hd
    all_goals
      rw [hd] at r2 r3
      first
        | (rw [Int.mul_comm t]; omega)
        | (rw [Int.sub_mul] at r2 r3; rw [Int.mul_comm t]; omega)
        | (rw [Int.add_mul] at r2 r3; rw [Int.mul_comm t]; omega)

/-- The computed distance of p from a segment's point closest to it, against its distance from either end. -/
theorem cand_ends {px py cx cy dx dy L : Int} (p0 : -268435456 ≤ px ∧ px ≤ 268435456) (p1 : -268435456 ≤ py ∧ py ≤ 268435456) (c0 : -268435456 ≤ cx ∧ cx ≤ 268435456) (c1 : -268435456 ≤ cy ∧ cy ≤ 268435456) (d0 : -268435456 ≤ dx ∧ dx ≤ 268435456) (d1 : -268435456 ≤ dy ∧ dy ≤ 268435456) (hL0 : 0 ≤ L)
    (hL : (cx - px) * (cx - px) + (cy - py) * (cy - py) < (L + 1) * (L + 1) ∨ (dx - px) * (dx - px) + (dy - py) * (dy - py) < (L + 1) * (L + 1)) :
    dist2 (sat px) (sat py) (cpc (cpt cx cy dx dy px py) cx dx) (cpc (cpt cx cy dx dy px py) cy dy) < (L + 5) * (L + 5) := by
  have hd : dist2 (sat px) (sat py) (cpc (cpt cx cy dx dy px py) cx dx) (cpc (cpt cx cy dx dy px py) cy dy) = (px - cpc (cpt cx cy dx dy px py) cx dx) * (px - cpc (cpt cx cy dx dy px py) cx dx) + (py - cpc (cpt cx cy dx dy px py) cy dy) * (py - cpc (cpt cx cy dx dy px py) cy dy) := by
    unfold dist2
    simp only [cpc_sat, sat_sat]
    rw [sat_id (x := px) (by omega) (by omega), sat_id (x := py) (by omega) (by omega)]; grind
  rw [hd]
  have hl : dist2 cx cy dx dy = (dx - cx) * (dx - cx) + (dy - cy) * (dy - cy) := by
    unfold dist2
    rw [sat_id (x := cx) (by omega) (by omega), sat_id (x := cy) (by omega) (by omega), sat_id (x := dx) (by omega) (by omega), sat_id (x := dy) (by omega) (by omega)]
  have ht : cpt cx cy dx dy px py = ratio ((px - cx) * (dx - cx) + (py - cy) * (dy - cy)) ((dx - cx) * (dx - cx) + (dy - cy) * (dy - cy)) := by
    unfold cpt
    rw [hl, sat_id (x := cx) (by omega) (by omega), sat_id (x := cy) (by omega) (by omega), sat_id (x := dx) (by omega) (by omega), sat_id (x := dy) (by omega) (by omega), sat_id (x := px) (by omega) (by omega), sat_id (x := py) (by omega) (by omega)]
  obtain ⟨l0, l1⟩ := dist2_in cx cy dx dy
  rw [hl] at l0 l1
  have n1 := mul_between (a := px - cx) (b := dx - cx) (A := 536870912) (B := 536870912) (by omega) (by omega) (by omega) (by omega)
  have n2 := mul_between (a := py - cy) (b := dy - cy) (A := 536870912) (B := 536870912) (by omega) (by omega) (by omega) (by omega)
  have hz : (dx - cx) * (dx - cx) + (dy - cy) * (dy - cy) = 0 → (px - cx) * (dx - cx) + (py - cy) * (dy - cy) = 0 := fun h => by
    have s1 := sq_nn (dx - cx); have s2 := sq_nn (dy - cy)
    have z1 : dx - cx = 0 := by
      have : (dx - cx) * (dx - cx) = 0 := by omega
      rcases Int.mul_eq_zero.1 this with h | h <;> exact h
    have z2 : dy - cy = 0 := by
      have : (dy - cy) * (dy - cy) = 0 := by omega
      rcases Int.mul_eq_zero.1 this with h | h <;> exact h
    rw [z1, z2]; simp
  obtain ⟨r1, r2⟩ := ratio_err l0 l1 (by omega) (by omega) hz
  rw [← ht] at r1 r2
  obtain ⟨t0, t1⟩ := cpt_in cx cy dx dy px py
  obtain ⟨ex, ex0, ex1, hx⟩ := cpc_err t0 t1 c0.1 c0.2 d0.1 d0.2
  obtain ⟨ey, ey0, ey1, hy⟩ := cpc_err t0 t1 c1.1 c1.2 d1.1 d1.2
  generalize cpc (cpt cx cy dx dy px py) cx dx = qx at *
  generalize cpc (cpt cx cy dx dy px py) cy dy = qy at *
  generalize cpt cx cy dx dy px py = t at *
  rcases hL with hL | hL
  · refine end_core (ux := px - cx) (uy := py - cy) (wx := dx - cx) (wy := dy - cy) (k := t) (ex := ex) (ey := ey) r1 ex0 ex1 ey0 ey1 (by omega) (by omega) hL0 ?_
    have e1 : (px - cx) * (px - cx) = (cx - px) * (cx - px) := by grind
    have e2 : (py - cy) * (py - cy) = (cy - py) * (cy - py) := by grind
    omega
  · refine end_core (ux := px - dx) (uy := py - dy) (wx := cx - dx) (wy := cy - dy) (k := 65536 - t) (ex := ex) (ey := ey) ?_ ex0 ex1 ey0 ey1 ?_ ?_ hL0 ?_
    · have e1 : (cx - dx) * (cx - dx) + (cy - dy) * (cy - dy) = (dx - cx) * (dx - cx) + (dy - cy) * (dy - cy) := by grind
      have e2 : (px - dx) * (cx - dx) + (py - dy) * (cy - dy) = ((dx - cx) * (dx - cx) + (dy - cy) * (dy - cy)) - ((px - cx) * (dx - cx) + (py - cy) * (dy - cy)) := by grind
      rw [e1, e2]; exact r2
    · have : (65536 - t) * (cx - dx) = 65536 * (cx - dx) + t * (dx - cx) := by grind
      omega
    · have : (65536 - t) * (cy - dy) = 65536 * (cy - dy) + t * (dy - cy) := by grind
      omega
    · have e1 : (px - dx) * (px - dx) = (dx - px) * (dx - px) := by grind
      have e2 : (py - dy) * (py - dy) = (dy - py) * (dy - py) := by grind
      omega

/-- The length of a difference: exact, or saturated. -/
theorem vlen_sub {ax ay cx cy : Int} (a0 : -268435456 ≤ ax ∧ ax ≤ 268435456) (a1 : -268435456 ≤ ay ∧ ay ≤ 268435456) (c0 : -268435456 ≤ cx ∧ cx ≤ 268435456) (c1 : -268435456 ≤ cy ∧ cy ≤ 268435456) :
    0 ≤ vlen (sub cx ax) (sub cy ay) ∧ ((cx - ax) * (cx - ax) + (cy - ay) * (cy - ay) < (vlen (sub cx ax) (sub cy ay) + 1) * (vlen (sub cx ax) (sub cy ay) + 1) ∨ 536870911 ≤ vlen (sub cx ax) (sub cy ay)) := by
  obtain ⟨h0, h1, h2, h3⟩ := vlen_is (sub cx ax) (sub cy ay)
  have ex : sat (sub cx ax) = sat (cx - ax) := by unfold sub; rw [sat_sat, sat_id (x := cx) (by omega) (by omega), sat_id (x := ax) (by omega) (by omega)]
  have ey : sat (sub cy ay) = sat (cy - ay) := by unfold sub; rw [sat_sat, sat_id (x := cy) (by omega) (by omega), sat_id (x := ay) (by omega) (by omega)]
  rw [ex, ey] at h2 h3
  refine ⟨h0, ?_⟩
  generalize vlen (sub cx ax) (sub cy ay) = L at *
  have big : ∀ X S : Int, (X = 536870911 ∨ X = -536870911) → 0 ≤ S → X * X + S < (L + 1) * (L + 1) → 536870911 ≤ L := fun X S hX hS h => by
    have e : X * X = 288230375077969921 := by rcases hX with rfl | rfl <;> decide
    false_or_by_contra
    have : (L + 1) * (L + 1) ≤ 536870911 * 536870911 := Int.mul_le_mul (by omega) (by omega) (by omega) (by omega)
    omega
  by_cases hx : -536870911 ≤ cx - ax ∧ cx - ax ≤ 536870911
  · by_cases hy : -536870911 ≤ cy - ay ∧ cy - ay ≤ 536870911
    · left; rw [sat_id hx.1 hx.2, sat_id hy.1 hy.2] at h3; exact h3
    · right; exact big (sat (cy - ay)) (sat (cx - ax) * sat (cx - ax)) (by unfold sat; split <;> (try split) <;> omega) (sq_nn _) (by omega)
  · right; exact big (sat (cx - ax)) (sat (cy - ay) * sat (cy - ay)) (by unfold sat; split <;> (try split) <;> omega) (sq_nn _) h3
theorem sdist_small {ax ay bx b_y cx cy dx dy L : Int} (hL0 : 0 ≤ L) (h : (cand1 ax ay bx b_y cx cy dx dy).d < (L + 5) * (L + 5) ∨ (cand2 ax ay bx b_y cx cy dx dy).d < (L + 5) * (L + 5) ∨ 536870911 ≤ L) : sdist ax ay bx b_y cx cy dx dy - 4 ≤ L := by
  have hs := sdist_in ax ay bx b_y cx cy dx dy
  rcases h with h | h | h
  rotate_left 2
  · omega
  all_goals
    unfold sdist
    split
    · omega
    · obtain ⟨h0, h1⟩ := dist2_in (best ax ay bx b_y cx cy dx dy).px (best ax ay bx b_y cx cy dx dy).py (best ax ay bx b_y cx cy dx dy).qx (best ax ay bx b_y cx cy dx dy).qy
      obtain ⟨i0, i1, -⟩ := isq_is h0 h1
      have hb := best_d ax ay bx b_y cx cy dx dy
      have hq : isq (best ax ay bx b_y cx cy dx dy).d ≤ L + 4 := sq_unique (n := (best ax ay bx b_y cx cy dx dy).d) i0 (by omega) i1 (by rw [show L + 4 + 1 = L + 5 from by omega]; omega)
      have : sat (isq (best ax ay bx b_y cx cy dx dy).d) ≤ isq (best ax ay bx b_y cx cy dx dy).d := by
        have : 0 ≤ isq (best ax ay bx b_y cx cy dx dy).d := i0
        unfold sat; split <;> (try split) <;> omega
      omega
def wl (x : Int) : Prop := -268435456 ≤ x ∧ x ≤ 268435456
theorem ends_ca {ax ay bx b_y cx cy dx dy : Int} (a0 : wl ax) (a1 : wl ay) (b0 : wl bx) (b1 : wl b_y) (c0 : wl cx) (c1 : wl cy) (d0 : wl dx) (d1 : wl dy) : sdist ax ay bx b_y cx cy dx dy - 4 ≤ vlen (sub cx ax) (sub cy ay) := by
  obtain ⟨h0, h | h⟩ := vlen_sub a0 a1 c0 c1
  · exact sdist_small h0 (.inl (cand_ends a0 a1 c0 c1 d0 d1 h0 (.inl h)))
  · exact sdist_small h0 (.inr (.inr h))
theorem ends_da {ax ay bx b_y cx cy dx dy : Int} (a0 : wl ax) (a1 : wl ay) (b0 : wl bx) (b1 : wl b_y) (c0 : wl cx) (c1 : wl cy) (d0 : wl dx) (d1 : wl dy) : sdist ax ay bx b_y cx cy dx dy - 4 ≤ vlen (sub dx ax) (sub dy ay) := by
  obtain ⟨h0, h | h⟩ := vlen_sub a0 a1 d0 d1
  · exact sdist_small h0 (.inl (cand_ends a0 a1 c0 c1 d0 d1 h0 (.inr h)))
  · exact sdist_small h0 (.inr (.inr h))
theorem ends_cb {ax ay bx b_y cx cy dx dy : Int} (a0 : wl ax) (a1 : wl ay) (b0 : wl bx) (b1 : wl b_y) (c0 : wl cx) (c1 : wl cy) (d0 : wl dx) (d1 : wl dy) : sdist ax ay bx b_y cx cy dx dy - 4 ≤ vlen (sub cx bx) (sub cy b_y) := by
  obtain ⟨h0, h | h⟩ := vlen_sub b0 b1 c0 c1
  · exact sdist_small h0 (.inr (.inl (cand_ends b0 b1 c0 c1 d0 d1 h0 (.inl h))))
  · exact sdist_small h0 (.inr (.inr h))
theorem ends_db {ax ay bx b_y cx cy dx dy : Int} (a0 : wl ax) (a1 : wl ay) (b0 : wl bx) (b1 : wl b_y) (c0 : wl cx) (c1 : wl cy) (d0 : wl dx) (d1 : wl dy) : sdist ax ay bx b_y cx cy dx dy - 4 ≤ vlen (sub dx bx) (sub dy b_y) := by
  obtain ⟨h0, h | h⟩ := vlen_sub b0 b1 d0 d1
  · exact sdist_small h0 (.inr (.inl (cand_ends b0 b1 c0 c1 d0 d1 h0 (.inr h))))
  · exact sdist_small h0 (.inr (.inr h))

end Go.Proofs.Ytconfbdnhalmoaa.Fx
