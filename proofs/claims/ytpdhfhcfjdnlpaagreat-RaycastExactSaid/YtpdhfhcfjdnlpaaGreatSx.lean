/- Plain mathematics of chapter 14: the Lean functions that the contracts of package sat and of its reference speak of; polygons that are separated along a normal have no common point. No program is imported. -/
import Derived.Test.YtpdhfhcfjdnlpaaGreatMa5
set_option linter.unusedVariables false
namespace Go.Proofs.YtpdhfhcfjdnlpaaGreat.Fx

/-- There is such an edge. -/
def eOK (ps : List Pt) (i : Int) : Prop := 2 ≤ ps.length ∧ 0 ≤ i ∧ i < ps.length
instance (ps : List Pt) (i : Int) : Decidable (eOK ps i) := by unfold eOK; exact inferInstance
/-- Along the edge. -/
def eX (ps : List Pt) (k : Nat) : Int := sub (hp' ps (k + 1)).1 (hp' ps k).1
def eY (ps : List Pt) (k : Nat) : Int := sub (hp' ps (k + 1)).2 (hp' ps k).2
/-- EdgeDirection, EdgeNormal. -/
def eDir (ps : List Pt) (i : Int) : Pt := if eOK ps i then (unit (eX ps i.toNat) (vlen (eX ps i.toNat) (eY ps i.toNat)), unit (eY ps i.toNat) (vlen (eX ps i.toNat) (eY ps i.toNat))) else (0, 0)
def eNor (ps : List Pt) (i : Int) : Pt := if eOK ps i then (unit (eY ps i.toNat) (vlen (eY ps i.toNat) (-eX ps i.toNat)), unit (-eX ps i.toNat) (vlen (eY ps i.toNat) (-eX ps i.toNat))) else (0, 0)
/-- How far a vertex of b lies from edge i of a; the smallest of the first k + 1; of all. -/
def sepD (a : List Pt) (i : Nat) (b : List Pt) (k : Nat) : Int := dot (eNor a i).1 (eNor a i).2 (sub (hp' b k).1 (hp' a i).1) (sub (hp' b k).2 (hp' a i).2)
def sepm (a : List Pt) (i : Nat) (b : List Pt) : Nat → Int
  | 0 => sepD a i b 0
  | k + 1 => min (sepm a i b k) (sepD a i b (k + 1))
def sep (a : List Pt) (i : Nat) (b : List Pt) : Int := sepm a i b (b.length - 1)
/-- MaxSeparation: the first best one of the first k + 1 edges. -/
def msf (a b : List Pt) : Nat → Int × Int
  | 0 => (0, sep a 0 b)
  | k + 1 => if (msf a b k).2 < sep a (k + 1) b then (((k + 1 : Nat) : Int), sep a (k + 1) b) else msf a b k
def msep (a b : List Pt) : Int × Int := if a.length < 2 ∨ b.length = 0 then (-1, 0) else msf a b (a.length - 1)
/-- IncidentEdge. -/
def incD (b : List Pt) (x y : Int) (k : Nat) : Int := dot (eNor b k).1 (eNor b k).2 x y
def incf (b : List Pt) (x y : Int) : Nat → Int × Int
  | 0 => (0, incD b x y 0)
  | k + 1 => if incD b x y (k + 1) < (incf b x y k).2 then (((k + 1 : Nat) : Int), incD b x y (k + 1)) else incf b x y k
def inc (b : List Pt) (x y : Int) : Int := if b.length < 2 then -1 else (incf b x y (b.length - 1)).1

theorem vlen_turn (x y : Int) : vlen y (-x) = vlen x y := by
  unfold vlen; rw [sat_neg]; congr 1; grind
theorem unit_neg (c l : Int) : unit (-c) l = -unit c l := by
  have hd : dz (-c) = -dz c := by unfold dz; split <;> split <;> (try split) <;> (try split) <;> omega
  have hr : ∀ n d : Int, rdiv (-n) d = -rdiv n d := fun n d => by
    by_cases h : 1 ≤ d ∧ d ≤ 4611686018427387904 ∧ -4611686018427387904 ≤ n ∧ n ≤ 4611686018427387904
    · rw [rdiv_in h.1 h.2.1 (by omega) (by omega), rdiv_in h.1 h.2.1 h.2.2.1 h.2.2.2]; exact rcore_neg _ _ h.1
    · rw [rdiv_out (by omega), rdiv_out (by omega)]; rfl
  unfold unit quo
  rw [sat_neg, hd]
  split
  · rfl
  · split
    · rw [show -(-sat c * 65536) = -(-(sat c * 65536)) from by grind, hr (-(sat c * 65536)), sat_neg]
    · rw [show -sat c * 65536 = -(sat c * 65536) from by grind, hr, sat_neg]
/-- The normal is the direction, turned. -/
theorem eNor_eDir (ps : List Pt) (i : Int) : eNor ps i = ((eDir ps i).2, -(eDir ps i).1) := by
  unfold eNor eDir
  split
  · rw [vlen_turn, unit_neg]
  · rfl
theorem sepm_spec (a : List Pt) (i : Nat) (b : List Pt) : ∀ k, (∀ j, j ≤ k → sepm a i b k ≤ sepD a i b j) ∧ ∃ j, j ≤ k ∧ sepm a i b k = sepD a i b j
  | 0 => ⟨fun j hj => by obtain rfl : j = 0 := by omega
                         exact Int.le_refl _, 0, by omega, rfl⟩
  | k + 1 => by
    obtain ⟨h1, j, hj, h2⟩ := sepm_spec a i b k
    have e : sepm a i b (k + 1) = min (sepm a i b k) (sepD a i b (k + 1)) := rfl
    constructor
    · intro j hj
      rcases (by omega : j ≤ k ∨ j = k + 1) with c | rfl
      · have := h1 j c; omega
      · omega
    · by_cases c : sepm a i b k ≤ sepD a i b (k + 1)
      · exact ⟨j, by omega, by omega⟩
      · exact ⟨k + 1, by omega, by omega⟩
theorem sep_le {a : List Pt} {i : Nat} {b : List Pt} {j : Nat} (hj : j < b.length) : sep a i b ≤ sepD a i b j := (sepm_spec a i b (b.length - 1)).1 j (by omega)
theorem sep_ge {a : List Pt} {i : Nat} {b : List Pt} {M : Int} (h0 : 0 < b.length) (h : ∀ j, j < b.length → M ≤ sepD a i b j) : M ≤ sep a i b := by
  obtain ⟨_, j, hj, e⟩ := sepm_spec a i b (b.length - 1)
  unfold sep; rw [e]; exact h j (by omega)
theorem msf_spec (a b : List Pt) : ∀ k, ∃ j : Nat, j ≤ k ∧ msf a b k = ((j : Int), sep a j b) ∧ (∀ i, i ≤ k → sep a i b ≤ sep a j b) ∧ ∀ i, i < j → sep a i b < sep a j b
  | 0 => ⟨0, by omega, rfl, fun i hi => (show i = 0 by omega) ▸ Int.le_refl _, fun i hi => absurd hi (by omega)⟩
  | k + 1 => by
    obtain ⟨j, hj, e, h1, h2⟩ := msf_spec a b k
    by_cases c : (msf a b k).2 < sep a (k + 1) b
    · refine ⟨k + 1, by omega, if_pos c, fun i hi => ?_, fun i hi => ?_⟩
      · rw [e] at c
        rcases (by omega : i ≤ k ∨ i = k + 1) with d | rfl
        · have := h1 i d; omega
        · exact Int.le_refl _
      · rw [e] at c; have := h1 i (by omega); omega
    · refine ⟨j, by omega, (if_neg c).trans e, fun i hi => ?_, h2⟩
      rw [e] at c
      rcases (by omega : i ≤ k ∨ i = k + 1) with d | rfl
      · exact h1 i d
      · omega
/-- What MaxSeparation returns. -/
theorem msep_spec {a b : List Pt} (ha : 2 ≤ a.length) (hb : 0 < b.length) : ∃ j : Nat, j < a.length ∧ msep a b = ((j : Int), sep a j b) ∧ (∀ i, i < a.length → sep a i b ≤ sep a j b) ∧ ∀ i, i < j → sep a i b < sep a j b := by
  obtain ⟨j, hj, e, h1, h2⟩ := msf_spec a b (a.length - 1)
  exact ⟨j, by omega, (if_neg (by omega)).trans e, fun i hi => h1 i (by omega), h2⟩
theorem msep_none {a b : List Pt} (h : a.length < 2 ∨ b.length = 0) : msep a b = (-1, 0) := if_pos h
theorem incf_spec (b : List Pt) (x y : Int) : ∀ k, ∃ j : Nat, j ≤ k ∧ incf b x y k = ((j : Int), incD b x y j) ∧ (∀ i, i ≤ k → incD b x y j ≤ incD b x y i) ∧ ∀ i, i < j → incD b x y j < incD b x y i
  | 0 => ⟨0, by omega, rfl, fun i hi => (show i = 0 by omega) ▸ Int.le_refl _, fun i hi => absurd hi (by omega)⟩
  | k + 1 => by
    obtain ⟨j, hj, e, h1, h2⟩ := incf_spec b x y k
    by_cases c : incD b x y (k + 1) < (incf b x y k).2
    · refine ⟨k + 1, by omega, if_pos c, fun i hi => ?_, fun i hi => ?_⟩
      · rw [e] at c
        rcases (by omega : i ≤ k ∨ i = k + 1) with d | rfl
        · have := h1 i d; omega
        · exact Int.le_refl _
      · rw [e] at c; have := h1 i (by omega); omega
    · refine ⟨j, by omega, (if_neg c).trans e, fun i hi => ?_, h2⟩
      rw [e] at c
      rcases (by omega : i ≤ k ∨ i = k + 1) with d | rfl
      · exact h1 i d
      · omega
theorem inc_spec {b : List Pt} (x y : Int) (hb : 2 ≤ b.length) : ∃ j : Nat, j < b.length ∧ inc b x y = (j : Int) ∧ (∀ i, i < b.length → incD b x y j ≤ incD b x y i) ∧ ∀ i, i < j → incD b x y j < incD b x y i := by
  obtain ⟨j, hj, e, h1, h2⟩ := incf_spec b x y (b.length - 1)
  refine ⟨j, by omega, ?_, fun i hi => h1 i (by omega), h2⟩
  unfold inc; rw [if_neg (by omega), e]
theorem inc_none {b : List Pt} (x y : Int) (h : b.length < 2) : inc b x y = -1 := if_pos h

theorem hp_left {b c : List Pt} {j : Nat} (hj : j < b.length) : hp' (b ++ c) j = hp' b j := by
  rw [hp_lt (by simp; omega), hp_lt hj, List.getElem_append_left hj]
theorem sepD_left {a b c : List Pt} {i j : Nat} (hj : j < b.length) : sepD a i (b ++ c) j = sepD a i b j := by unfold sepD; rw [hp_left hj]
/-- More vertices separate no better. -/
theorem msep_more {a b c : List Pt} (ha : 2 ≤ a.length) (hb : 0 < b.length) : (msep a (b ++ c)).2 ≤ (msep a b).2 := by
  obtain ⟨j, hj, e, h1, _⟩ := msep_spec ha hb
  obtain ⟨j', hj', e', _, _⟩ := msep_spec (b := b ++ c) ha (by simp; omega)
  rw [e, e']
  dsimp only
  refine Int.le_trans ?_ (h1 j' hj')
  refine sep_ge hb fun k hk => ?_
  rw [← sepD_left (c := c) hk]
  exact sep_le (by simp; omega)
theorem sub_self (x : Int) : sub x x = 0 := by unfold sub; rw [Int.sub_self]; exact sat_zero
theorem dot_zero (x y : Int) : dot x y 0 0 = 0 := by unfold dot; rw [sat_zero]; simp; decide +kernel
theorem msep_self {a : List Pt} (ha : 2 ≤ a.length) : 0 ≤ (msep a a).1 ∧ (msep a a).2 ≤ 0 := by
  obtain ⟨j, hj, e, _, _⟩ := msep_spec (b := a) ha (by omega)
  rw [e]
  refine ⟨by dsimp only; omega, ?_⟩
  have h := sep_le (a := a) (i := j) (b := a) hj
  have e2 : sepD a j a j = 0 := by unfold sepD; rw [sub_self, sub_self, dot_zero]
  dsimp only; omega

/-- A component of a normal, and what it is. -/
theorem unit_near {c l : Int} (hl : 1 ≤ l) (hl2 : l ≤ 4194304) (hc : -l ≤ c ∧ c ≤ l) : 2 * (unit c l * l - 65536 * c) ≤ l ∧ 2 * (65536 * c - unit c l * l) ≤ l ∧ -65537 ≤ unit c l ∧ unit c l ≤ 65537 := by
  have e : unit c l = sat (rcore (c * 65536) l) := by
    unfold unit; rw [if_neg (by omega), quo_pos (by omega), sat_id (x := c) (by omega) (by omega), sat_id (x := l) (by omega) (by omega), rdiv_in (by omega) (by omega) (by omega) (by omega)]
  have hr := rcore_near (n := c * 65536) (d := l) hl
  rw [e]
  generalize rcore (c * 65536) l = r at *
  have r1 : r ≤ 65537 := by
    false_or_by_contra
    have : 65538 * l ≤ r * l := Int.mul_le_mul_of_nonneg_right (by omega) (by omega)
    omega
  have r2 : -65537 ≤ r := by
    false_or_by_contra
    have : r * l ≤ (-65538) * l := Int.mul_le_mul_of_nonneg_right (by omega) (by omega)
    omega
  rw [sat_id (by omega) (by omega)]
  omega
theorem dot_big {n1 n2 d1 d2 : Int} (hn1 : -65537 ≤ n1 ∧ n1 ≤ 65537) (hn2 : -65537 ≤ n2 ∧ n2 ≤ 65537) (hd1 : -2097152 ≤ d1 ∧ d1 ≤ 2097152) (hd2 : -2097152 ≤ d2 ∧ d2 ≤ 2097152) (h : 128 < dot n1 n2 d1 d2) : 8388608 < n1 * d1 + n2 * d2 := by
  unfold dot at h
  rw [sat_id (x := n1) (by omega) (by omega), sat_id (x := n2) (by omega) (by omega), sat_id (x := d1) (by omega) (by omega), sat_id (x := d2) (by omega) (by omega)] at h
  have m1 := mul_between (a := n1) (b := d1) (A := 65537) (B := 2097152) (by omega) (by omega) (by omega) (by omega)
  have m2 := mul_between (a := n2) (b := d2) (A := 65537) (B := 2097152) (by omega) (by omega) (by omega) (by omega)
  rw [rdiv_in (by omega) (by omega) (by omega) (by omega)] at h
  have hr := rcore_near (n := n1 * d1 + n2 * d2) (d := 65536) (by omega)
  generalize rcore (n1 * d1 + n2 * d2) 65536 = r at *
  have : 128 < r := by unfold sat at h; split at h <;> (try split at h) <;> omega
  omega
theorem sub_inr {x y : Int} (hx : -1048576 ≤ x ∧ x ≤ 1048576) (hy : -1048576 ≤ y ∧ y ≤ 1048576) : sub x y = x - y := by
  unfold sub; rw [inr_sat hx.1 hx.2, inr_sat hy.1 hy.2, sat_id (by omega) (by omega)]
/-- Nothing is in both of two polygons, if all of the second lies far from an edge of the first. -/
theorem sep_out {a b : List Pt} {j : Nat} (hj : j < a.length) (hs : 128 < sep a j b) {x y : Int} (h1 : conP a x y) (h2 : conP b x y) : False := by
  have ha := h1.1; have hb := h2.1
  have a0 : 0 < a.length := by omega
  have hia : ∀ k, inrP (hp' a k) := fun k => ha.2.2.1 _ (hp_mem _ a0)
  have hib : ∀ k, inrP (hp' b k) := fun k => hb.2.2.1 _ (hp_mem _ (by have := hb.1; omega))
  have hv := con_inr h1
  have hl := con_left h1 j hj
  have hok : eOK a (j : Int) := ⟨by have := ha.1; omega, by omega, by omega⟩
  have i0 := hia j; have i1 := hia (j + 1)
  have ex : eX a j = (hp' a (j + 1)).1 - (hp' a j).1 := sub_inr ⟨i1.1, i1.2.1⟩ ⟨i0.1, i0.2.1⟩
  have ey : eY a j = (hp' a (j + 1)).2 - (hp' a j).2 := sub_inr ⟨i1.2.2.1, i1.2.2.2⟩ ⟨i0.2.2.1, i0.2.2.2⟩
  have en : eNor a j = (unit (eY a j) (vlen (eX a j) (eY a j)), unit (-eX a j) (vlen (eX a j) (eY a j))) := by
    unfold eNor; rw [if_pos hok, vlen_turn]; rfl
  obtain ⟨l0, l1, l2, l3⟩ := vlen_is (eX a j) (eY a j)
  unfold inrP at i0 i1 hv
  dsimp only at hv
  have bx : -2097152 ≤ eX a j ∧ eX a j ≤ 2097152 := by omega
  have by' : -2097152 ≤ eY a j ∧ eY a j ≤ 2097152 := by omega
  rw [sat_id (x := eX a j) (by omega) (by omega), sat_id (x := eY a j) (by omega) (by omega)] at l2 l3
  have hsep : ∀ k, k < b.length → 128 < dot (eNor a j).1 (eNor a j).2 (sub (hp' b k).1 (hp' a j).1) (sub (hp' b k).2 (hp' a j).2) := fun k hk => by
    have := sep_le (a := a) (i := j) hk
    have e : sepD a j b k = dot (eNor a j).1 (eNor a j).2 (sub (hp' b k).1 (hp' a j).1) (sub (hp' b k).2 (hp' a j).2) := rfl
    omega
  rw [en] at hsep
  dsimp only at hsep
  unfold dt at hl
  dsimp only at hl
  rw [← ex, ← ey] at hl
  generalize eX a j = p at *
  generalize eY a j = q at *
  generalize vlen p q = l at *
  have sp := sq_nn p; have sq := sq_nn q
  have l4 : l ≤ 4194303 := by
    have m1 := mul_between (a := p) (b := p) (A := 2097152) (B := 2097152) (by omega) (by omega) (by omega) (by omega)
    have m2 := mul_between (a := q) (b := q) (A := 2097152) (B := 2097152) (by omega) (by omega) (by omega) (by omega)
    exact sq_unique (n := p * p + q * q) l0 (by omega) l2 (by omega)
  have hpl : -l ≤ p ∧ p ≤ l := by
    rcases Int.le_total 0 p with h | h
    · have := sq_unique (a := p) (b := l) (n := p * p + q * q) h l0 (by omega) l3; omega
    · have := sq_unique (a := -p) (b := l) (n := p * p + q * q) (by omega) l0 (by rw [Int.neg_mul_neg]; omega) l3; omega
  have hql : -l ≤ q ∧ q ≤ l := by
    rcases Int.le_total 0 q with h | h
    · have := sq_unique (a := q) (b := l) (n := p * p + q * q) h l0 (by omega) l3; omega
    · have := sq_unique (a := -q) (b := l) (n := p * p + q * q) (by omega) l0 (by rw [Int.neg_mul_neg]; omega) l3; omega
  by_cases hl0 : l = 0
  · obtain ⟨k, hk, _⟩ := cv_low hb (con_left h2) (0, 0) (0, 0)
    have := hsep k hk
    rw [hl0, show unit q 0 = 0 from if_pos rfl, show unit (-p) 0 = 0 from if_pos rfl, dot_comm, dot_zero] at this
    omega
  have u1 := unit_near (c := q) (l := l) (by omega) (by omega) hql
  have u2 := unit_near (c := -p) (l := l) (by omega) (by omega) (by omega)
  generalize unit q l = n1 at *
  generalize unit (-p) l = n2 at *
  obtain ⟨k, hk, hlow⟩ := cv_low hb (con_left h2) (0, 0) (n2, -n1)
  have ib := hib k
  unfold inrP at ib
  have hbig := hsep k hk
  rw [sub_inr ⟨ib.1, ib.2.1⟩ ⟨i0.1, i0.2.1⟩, sub_inr ⟨ib.2.2.1, ib.2.2.2⟩ ⟨i0.2.2.1, i0.2.2.2⟩] at hbig
  have hB := dot_big u1.2.2 u2.2.2 (by omega) (by omega) hbig
  unfold dt at hlow
  dsimp only at hlow
  generalize (hp' a j).1 = a1 at *
  generalize (hp' a j).2 = a2 at *
  generalize (hp' b k).1 = b1 at *
  generalize (hp' b k).2 = b2 at *
  generalize sat x = v1 at *
  generalize sat y = v2 at *
  have hF : 8388608 < n1 * (v1 - a1) + n2 * (v2 - a2) := by
    have e1 : n1 * (v1 - a1) + n2 * (v2 - a2) = n1 * (b1 - a1) + n2 * (b2 - a2) + ((n2 - 0) * (v2 - 0) - (-n1 - 0) * (v1 - 0) - ((n2 - 0) * (b2 - 0) - (-n1 - 0) * (b1 - 0))) := by grind
    omega
  have d1 : -2097152 ≤ v1 - a1 ∧ v1 - a1 ≤ 2097152 := by omega
  have d2 : -2097152 ≤ v2 - a2 ∧ v2 - a2 ≤ 2097152 := by omega
  generalize v1 - a1 = D1 at *
  generalize v2 - a2 = D2 at *
  have t1 := mul_between (a := 2 * (n1 * l - 65536 * q)) (b := D1) (A := l) (B := 2097152) (by omega) (by omega) (by omega) (by omega)
  have t2 := mul_between (a := 2 * (n2 * l - 65536 * -p)) (b := D2) (A := l) (B := 2097152) (by omega) (by omega) (by omega) (by omega)
  have id : 2 * ((n1 * D1 + n2 * D2) * l) = 2 * (n1 * l - 65536 * q) * D1 + 2 * (n2 * l - 65536 * -p) * D2 - 131072 * (p * D2 - q * D1) := by grind
  have hm : 8388609 * l ≤ (n1 * D1 + n2 * D2) * l := Int.mul_le_mul_of_nonneg_right (by omega) (by omega)
  omega
/-- P14.3. -/
theorem sat_sep {a b : List Pt} (ha : cvxP a) (hb : cvxP b) (h : 128 < (msep a b).2 ∨ 128 < (msep b a).2) (x y : Int) : cont a x y = false ∨ cont b x y = false := by
  have h3 := ha.1; have h4 := hb.1
  by_cases c1 : conP a x y
  · by_cases c2 : conP b x y
    · exfalso
      rcases h with h | h
      · obtain ⟨j, hj, e, _, _⟩ := msep_spec (a := a) (b := b) (by omega) (by omega)
        rw [e] at h; exact sep_out hj h c1 c2
      · obtain ⟨j, hj, e, _, _⟩ := msep_spec (a := b) (b := a) (by omega) (by omega)
        rw [e] at h; exact sep_out hj h c2 c1
    · exact .inr (by simp [cont, c2])
  · exact .inl (by simp [cont, c1])

end Go.Proofs.YtpdhfhcfjdnlpaaGreat.Fx
