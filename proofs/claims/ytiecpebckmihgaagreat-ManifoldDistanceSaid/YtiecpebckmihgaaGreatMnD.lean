/- Plain mathematics of chapter 16: a polygon that contains a point comes near it; what the distance of two segments says of their contact. No program is imported. -/
import Derived.Test.YtiecpebckmihgaaGreatMm
set_option linter.unusedVariables false
namespace Go.Proofs.YtiecpebckmihgaaGreat
open Fx

theorem near_core {p q u1 u2 w1 w2 T F l : Int} (hF : 0 ≤ F) (hl : 0 ≤ l) (hll : l * l ≤ p * p + q * q) (hD : 0 < p * p + q * q)
    (hα : 0 ≤ p * u1 + q * u2) (hαS : p * u1 + q * u2 ≤ p * w1 + q * w2) (hS : 0 < p * w1 + q * w2)
    (z0 : (p * w1 + q * w2) * (q * u1 - p * u2) ≤ (p * u1 + q * u2) * (q * w1 - p * w2))
    (z1 : (p * u1 + q * u2) * (q * w1 - p * w2) - (p * w1 + q * w2) * (q * u1 - p * u2) ≤ (p * w1 + q * w2) * (F * l))
    (t0 : 0 ≤ T) (t1 : T ≤ 65536) (r1 : T < 65536 → 2 * (65536 * (u1 * w1 + u2 * w2) - T * (w1 * w1 + w2 * w2)) ≤ w1 * w1 + w2 * w2) (r2 : 0 < T → 2 * (T * (w1 * w1 + w2 * w2) - 65536 * (u1 * w1 + u2 * w2)) ≤ w1 * w1 + w2 * w2) :
    4 * ((65536 * u1 - T * w1) * (65536 * u1 - T * w1) + (65536 * u2 - T * w2) * (65536 * u2 - T * w2)) ≤ 17179869184 * (F * F) + (w1 * w1 + w2 * w2) := by
  obtain ⟨α, ha⟩ : ∃ α, p * u1 + q * u2 = α := ⟨_, rfl⟩
  obtain ⟨S, hs⟩ : ∃ S, p * w1 + q * w2 = S := ⟨_, rfl⟩
  obtain ⟨W, hW⟩ : ∃ W, w1 * w1 + w2 * w2 = W := ⟨_, rfl⟩
  obtain ⟨N, hN⟩ : ∃ N, u1 * w1 + u2 * w2 = N := ⟨_, rfl⟩
  obtain ⟨ζ, hζ⟩ : ∃ ζ, α * (q * w1 - p * w2) - S * (q * u1 - p * u2) = ζ := ⟨_, rfl⟩
  obtain ⟨Z1, hZ1⟩ : ∃ Z1, S * u1 - α * w1 = Z1 := ⟨_, rfl⟩
  obtain ⟨Z2, hZ2⟩ : ∃ Z2, S * u2 - α * w2 = Z2 := ⟨_, rfl⟩
  obtain ⟨Q, hQ⟩ : ∃ Q, p * p + q * q = Q := ⟨_, rfl⟩
  have hW0 : 0 ≤ W := by have := sq_nn w1; have := sq_nn w2; omega
  -- the distance of the crossing
  have e1 : Q * (Z1 * Z1 + Z2 * Z2) = (p * Z1 + q * Z2) * (p * Z1 + q * Z2) + (q * Z1 - p * Z2) * (q * Z1 - p * Z2) := by rw [← hQ]; grind
  have e2 : p * Z1 + q * Z2 = 0 := by
    have : p * Z1 + q * Z2 = S * (p * u1 + q * u2) - α * (p * w1 + q * w2) := by rw [← hZ1, ← hZ2]; grind
    rw [this, ha, hs, Int.mul_comm]; omega
  have e3 : q * Z1 - p * Z2 = -ζ := by rw [← hζ, ← hZ1, ← hZ2]; grind
  rw [ha, hs] at z0 z1
  rw [hζ] at z1
  rw [ha] at hα hαS
  rw [hs] at hαS hS
  rw [hQ] at hll hD
  rw [hW, hN] at r1 r2
  rw [hW]
  have hZ : Z1 * Z1 + Z2 * Z2 ≤ S * S * (F * F) := by
    rw [e2, e3] at e1
    have k1 : ζ * ζ ≤ S * (F * l) * (S * (F * l)) := Int.mul_le_mul z1 z1 (by omega) (by have := Int.mul_nonneg hF hl; exact Int.mul_nonneg (by omega) this)
    have k2 : S * (F * l) * (S * (F * l)) = S * S * (F * F) * (l * l) := by grind
    have k3 : S * S * (F * F) * (l * l) ≤ S * S * (F * F) * Q := Int.mul_le_mul_of_nonneg_left hll (Int.mul_nonneg (sq_nn S) (sq_nn F))
    have k4 : Q * (Z1 * Z1 + Z2 * Z2) ≤ Q * (S * S * (F * F)) := by
      rw [Int.mul_comm Q (S * S * (F * F))]
      have : -ζ * -ζ = ζ * ζ := by grind
      omega
    exact Int.le_of_mul_le_mul_left k4 hD
  -- the step from the crossing to the computed point
  obtain ⟨δ, hδ⟩ : ∃ δ, 65536 * α - T * S = δ := ⟨_, rfl⟩
  obtain ⟨ρ, hρ⟩ : ∃ ρ, 65536 * N - T * W = ρ := ⟨_, rfl⟩
  have id : S * S * ((65536 * u1 - T * w1) * (65536 * u1 - T * w1) + (65536 * u2 - T * w2) * (65536 * u2 - T * w2)) = 4294967296 * (Z1 * Z1 + Z2 * Z2) + 2 * (δ * ρ) * S - δ * δ * W := by
    rw [← hδ, ← hρ, ← hW, ← hN, ← hZ1, ← hZ2]; grind
  obtain ⟨d, hd0, hd1, hd2⟩ : ∃ d : Int, 0 ≤ d ∧ d * d = δ * δ ∧ 2 * (δ * ρ) ≤ d * W := by
    rcases Int.lt_trichotomy δ 0 with h | h | h
    · refine ⟨-δ, by omega, by grind, ?_⟩
      have hT : 0 < T := by
        false_or_by_contra
        obtain rfl : T = 0 := by omega
        have : 0 * S = 0 := Int.zero_mul _
        omega
      have := r2 hT
      have h3 := Int.mul_le_mul_of_nonneg_left (a := 2 * (T * W - 65536 * N)) (b := W) (c := -δ) this (by omega)
      have h4 : -δ * (2 * (T * W - 65536 * N)) = 2 * (δ * ρ) := by rw [← hρ]; grind
      omega
    · subst h; refine ⟨0, by omega, rfl, ?_⟩; simp
    · refine ⟨δ, by omega, rfl, ?_⟩
      have hT : T < 65536 := by
        false_or_by_contra
        obtain rfl : T = 65536 := by omega
        omega
      have := r1 hT
      have h3 := Int.mul_le_mul_of_nonneg_left (a := 2 * (65536 * N - T * W)) (b := W) (c := δ) this (by omega)
      have h4 : δ * (2 * (65536 * N - T * W)) = 2 * (δ * ρ) := by rw [← hρ]; grind
      omega
  have f1 : 2 * (δ * ρ) * S ≤ d * W * S := Int.mul_le_mul_of_nonneg_right hd2 (by omega)
  have f2 : 4 * (d * W * S) - 4 * (d * d * W) ≤ S * S * W := by
    have : S * S * W - (4 * (d * W * S) - 4 * (d * d * W)) = (S - 2 * d) * (S - 2 * d) * W := by grind
    have := Int.mul_nonneg (sq_nn (S - 2 * d)) hW0
    omega
  have f3 : 4294967296 * (Z1 * Z1 + Z2 * Z2) ≤ 4294967296 * (S * S * (F * F)) := Int.mul_le_mul_of_nonneg_left hZ (by decide)
  rw [← hd1] at id
  refine Int.le_of_mul_le_mul_left (a := S * S) ?_ (Int.mul_pos hS hS)
  have e4 : S * S * (4 * ((65536 * u1 - T * w1) * (65536 * u1 - T * w1) + (65536 * u2 - T * w2) * (65536 * u2 - T * w2))) = 4 * (S * S * ((65536 * u1 - T * w1) * (65536 * u1 - T * w1) + (65536 * u2 - T * w2) * (65536 * u2 - T * w2))) := by grind
  have e5 : S * S * (17179869184 * (F * F) + W) = 4 * (4294967296 * (S * S * (F * F))) + S * S * W := by grind
  rw [e4, e5, id]
  omega

theorem ratio_mid {N W : Int} (h0 : 0 < W) (h1 : W < 70368744177664) (h2 : -70368744177664 ≤ N) (h3 : N ≤ 70368744177664) :
    (ratio N W < 65536 → 2 * (65536 * N - ratio N W * W) ≤ W) ∧ (0 < ratio N W → 2 * (ratio N W * W - 65536 * N) ≤ W) := by
  by_cases c : N < 1
  · rw [ratio_out (.inr (.inr c))]; constructor
    · intro _; omega
    · intro h; omega
  by_cases c2 : W ≤ N
  · rw [ratio_one (by omega) (by omega) (by omega) c2]; constructor
    · intro h; omega
    · intro _; omega
  · rw [ratio_low (by omega) (by omega) (by omega) h1, rdiv_in (by omega) (by omega) (by omega) (by omega)]
    have hr := rcore_near (n := N * 65536) (d := W) (by omega)
    generalize rcore (N * 65536) W = k at *
    constructor <;> intro _ <;> omega

theorem cpc_near {t a b : Int} (h0 : 0 ≤ t) (h1 : t ≤ 65536) (a0 : -290000000 ≤ a ∧ a ≤ 290000000) (b0 : -290000000 ≤ b ∧ b ≤ 290000000) (hd : -3000000 ≤ b - a ∧ b - a ≤ 3000000) :
    ∃ e, -32768 ≤ e ∧ e ≤ 32768 ∧ 65536 * cpc t a b = 65536 * a + t * (b - a) + e := by
  have sa := sat_id (x := a) (by omega) (by omega)
  have sb := sat_id (x := b) (by omega) (by omega)
  by_cases t0 : t = 0
  · subst t0; rw [cpc_zero, sa]; exact ⟨0, by omega, by omega, by omega⟩
  by_cases t1 : t = 65536
  · subst t1; rw [cpc_one, sb]; exact ⟨0, by omega, by omega, by omega⟩
  rw [cpc_mid t0 t1]
  obtain ⟨r, hr, r0, r1, r2, r3⟩ := lerp_at (a := a) (b := b) h0 h1
  have hD : sub b a = b - a := sub_in ⟨by omega, by omega⟩ ⟨by omega, by omega⟩ ⟨by omega, by omega⟩
  rw [hD] at r2 r3
  have hm := mul_between (a := b - a) (b := t) (A := 3000000) (B := 65536) (by omega) (by omega) (by omega) (by omega)
  rw [sa, sat_id (x := a + r) (by omega) (by omega)] at hr
  rw [hr, Int.mul_comm t]
  exact ⟨65536 * r - (b - a) * t, by omega, by omega, by omega⟩

theorem leaves {n : Nat} (hn : 0 < n) {P : Nat → Prop} (hper : ∀ i, P (i + n) ↔ P i) {i j : Nat} (hi : P i) (hj : ¬ P j) : ∃ k, P k ∧ ¬ P (k + 1) := by
  have per : ∀ m i, P (i + m * n) ↔ P i := fun m => by
    induction m with
    | zero => intro i; rw [Nat.zero_mul, Nat.add_zero]
    | succ m ih => intro i; rw [Nat.succ_mul, ← Nat.add_assoc, hper, ih]
  have hj' : ¬ P (i + (j + i * n - i)) := by
    have : i * 1 ≤ i * n := Nat.mul_le_mul_left _ hn
    rw [show i + (j + i * n - i) = j + i * n from by omega, per]; exact hj
  generalize j + i * n - i = d at hj'
  induction d with
  | zero => exact absurd hi hj'
  | succ d ih =>
    by_cases h : P (i + d)
    · exact ⟨i + d, h, hj'⟩
    · exact ih h

theorem cp_close {L : List Pt} {k : Nat} {x y R : Int} (hA : (-290000000 ≤ (hp' L k).1 ∧ (hp' L k).1 ≤ 290000000) ∧ -290000000 ≤ (hp' L k).2 ∧ (hp' L k).2 ≤ 290000000) (hB : (-290000000 ≤ (hp' L (k + 1)).1 ∧ (hp' L (k + 1)).1 ≤ 290000000) ∧ -290000000 ≤ (hp' L (k + 1)).2 ∧ (hp' L (k + 1)).2 ≤ 290000000)
    (hd : (-3000000 ≤ (hp' L (k + 1)).1 - (hp' L k).1 ∧ (hp' L (k + 1)).1 - (hp' L k).1 ≤ 3000000) ∧ -3000000 ≤ (hp' L (k + 1)).2 - (hp' L k).2 ∧ (hp' L (k + 1)).2 - (hp' L k).2 ≤ 3000000)
    (hu : (-3000000 ≤ x - (hp' L k).1 ∧ x - (hp' L k).1 ≤ 3000000) ∧ -3000000 ≤ y - (hp' L k).2 ∧ y - (hp' L k).2 ≤ 3000000)
    {p q l : Int} (hl : 0 ≤ l) (hll : l * l ≤ p * p + q * q) (hD : 0 < p * p + q * q)
    (hα : 0 ≤ p * (x - (hp' L k).1) + q * (y - (hp' L k).2)) (hαS : p * (x - (hp' L k).1) + q * (y - (hp' L k).2) ≤ p * ((hp' L (k + 1)).1 - (hp' L k).1) + q * ((hp' L (k + 1)).2 - (hp' L k).2)) (hS : 0 < p * ((hp' L (k + 1)).1 - (hp' L k).1) + q * ((hp' L (k + 1)).2 - (hp' L k).2))
    (z0 : (p * ((hp' L (k + 1)).1 - (hp' L k).1) + q * ((hp' L (k + 1)).2 - (hp' L k).2)) * (q * (x - (hp' L k).1) - p * (y - (hp' L k).2)) ≤ (p * (x - (hp' L k).1) + q * (y - (hp' L k).2)) * (q * ((hp' L (k + 1)).1 - (hp' L k).1) - p * ((hp' L (k + 1)).2 - (hp' L k).2)))
    (z1 : (p * (x - (hp' L k).1) + q * (y - (hp' L k).2)) * (q * ((hp' L (k + 1)).1 - (hp' L k).1) - p * ((hp' L (k + 1)).2 - (hp' L k).2)) - (p * ((hp' L (k + 1)).1 - (hp' L k).1) + q * ((hp' L (k + 1)).2 - (hp' L k).2)) * (q * (x - (hp' L k).1) - p * (y - (hp' L k).2)) ≤ (p * ((hp' L (k + 1)).1 - (hp' L k).1) + q * ((hp' L (k + 1)).2 - (hp' L k).2)) * (1600 * l)) :
    dist2 (cpE L x y k).1 (cpE L x y k).2 x y < 9437184 := by
  unfold cpE
  generalize hA1 : (hp' L k).1 = a1 at *
  generalize hA2 : (hp' L k).2 = a2 at *
  generalize hB1 : (hp' L (k + 1)).1 = b1 at *
  generalize hB2 : (hp' L (k + 1)).2 = b2 at *
  clear hA1 hA2 hB1 hB2
  dsimp only
  have sa1 := sat_id (x := a1) (by omega) (by omega)
  have sa2 := sat_id (x := a2) (by omega) (by omega)
  have sb1 := sat_id (x := b1) (by omega) (by omega)
  have sb2 := sat_id (x := b2) (by omega) (by omega)
  have sx := sat_id (x := x) (by omega) (by omega)
  have sy := sat_id (x := y) (by omega) (by omega)
  have ht : cpt a1 a2 b1 b2 x y = ratio ((x - a1) * (b1 - a1) + (y - a2) * (b2 - a2)) ((b1 - a1) * (b1 - a1) + (b2 - a2) * (b2 - a2)) := by
    unfold cpt dist2; rw [sa1, sa2, sb1, sb2, sx, sy]
  obtain ⟨t0, t1⟩ := cpt_in a1 a2 b1 b2 x y
  obtain ⟨e1, ex0, ex1, hx⟩ := cpc_near (a := a1) (b := b1) t0 t1 hA.1 hB.1 hd.1
  obtain ⟨e2, ey0, ey1, hy⟩ := cpc_near (a := a2) (b := b2) t0 t1 hA.2 hB.2 hd.2
  unfold dist2
  rw [cpc_sat, cpc_sat, sx, sy]
  generalize cpc (cpt a1 a2 b1 b2 x y) a1 b1 = X at *
  generalize cpc (cpt a1 a2 b1 b2 x y) a2 b2 = Y at *
  generalize cpt a1 a2 b1 b2 x y = T at *
  have hg1 : 65536 * (x - X) = 65536 * (x - a1) - T * (b1 - a1) - e1 := by omega
  have hg2 : 65536 * (y - Y) = 65536 * (y - a2) - T * (b2 - a2) - e2 := by omega
  clear hx hy sa1 sa2 sb1 sb2 sx sy
  generalize b1 - a1 = w1 at *
  generalize b2 - a2 = w2 at *
  generalize x - a1 = u1 at *
  generalize y - a2 = u2 at *
  generalize x - X = g1 at *
  generalize y - Y = g2 at *
  have hw : w1 * w1 + w2 * w2 ≤ 18000000000000 := by
    have m1 := mul_between (a := w1) (b := w1) (A := 3000000) (B := 3000000) (by omega) (by omega) (by omega) (by omega)
    have m2 := mul_between (a := w2) (b := w2) (A := 3000000) (B := 3000000) (by omega) (by omega) (by omega) (by omega)
    omega
  have hw0 : 0 < w1 * w1 + w2 * w2 := by
    have s1 := sq_nn w1; have s2 := sq_nn w2
    false_or_by_contra
    have z1 : w1 = 0 := by rcases Int.mul_eq_zero.1 (show w1 * w1 = 0 by omega) with h | h <;> exact h
    have z2 : w2 = 0 := by rcases Int.mul_eq_zero.1 (show w2 * w2 = 0 by omega) with h | h <;> exact h
    rw [z1, z2] at hS; simp at hS
  have n1 := mul_between (a := u1) (b := w1) (A := 3000000) (B := 3000000) (by omega) (by omega) (by omega) (by omega)
  have n2 := mul_between (a := u2) (b := w2) (A := 3000000) (B := 3000000) (by omega) (by omega) (by omega) (by omega)
  obtain ⟨r1, r2⟩ := ratio_mid (N := u1 * w1 + u2 * w2) hw0 (by omega) (by omega) (by omega)
  rw [← ht] at r1 r2
  have key := near_core (F := 1600) (by omega) hl hll hD hα hαS hS z0 z1 t0 t1 r1 r2
  clear r1 r2 n1 n2 z0 z1 hα hαS hS hD hll ht hw0
  generalize 65536 * u1 - T * w1 = V1 at *
  generalize 65536 * u2 - T * w2 = V2 at *
  have s1 := sq_nn V1; have s2 := sq_nn V2
  have bV : ∀ V : Int, V * V ≤ 104923136 * 104923136 → -104923136 ≤ V ∧ V ≤ 104923136 := fun V hV => by
    have := abs_le_of_sq (u := V) (R := 104923136) (by omega) (by omega); exact this
  obtain ⟨v1, v2⟩ := bV V1 (by omega)
  obtain ⟨v3, v4⟩ := bV V2 (by omega)
  have p1 := mul_between (a := V1) (b := e1) (A := 104923136) (B := 32768) (by omega) (by omega) (by omega) (by omega)
  have p2 := mul_between (a := V2) (b := e2) (A := 104923136) (B := 32768) (by omega) (by omega) (by omega) (by omega)
  have p3 := mul_between (a := e1) (b := e1) (A := 32768) (B := 32768) (by omega) (by omega) (by omega) (by omega)
  have p4 := mul_between (a := e2) (b := e2) (A := 32768) (B := 32768) (by omega) (by omega) (by omega) (by omega)
  have id : 4294967296 * (g1 * g1 + g2 * g2) = V1 * V1 + V2 * V2 - 2 * (V1 * e1) - 2 * (V2 * e2) + e1 * e1 + e2 * e2 := by
    have h1 : 4294967296 * (g1 * g1 + g2 * g2) = (65536 * g1) * (65536 * g1) + (65536 * g2) * (65536 * g2) := by grind
    rw [h1, hg1, hg2]; grind
  omega

end Go.Proofs.YtiecpebckmihgaaGreat
