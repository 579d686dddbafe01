/- Plain mathematics of angles: the Lean functions that the contracts of package angle and of its reference speak of, and what the statements of chapter 2 say of them. No program is imported.
Plain mathematics: the rotation's length: its squares add up to One*One with an error below 8*One. No program is imported.
Plain mathematics of transforms: the Lean functions, component by component, that the contracts of package transform and of its reference speak of, and what the statements of chapter 4 say of them. No program is imported. -/
import Derived.Test.YtdmcdicphohlfaaGreatMa1

set_option linter.unusedVariables false
namespace Go.Proofs.YtdmcdicphohlfaaGreat.Fx

theorem tmod_at (a d : Int) : a.tmod d = if 0 ≤ a then a % d else -(-a % d) := by
  split
  · rename_i h; exact Int.tmod_eq_emod_of_nonneg h
  · exact (tdiv_neg (n := a) (d := d) (by omega)).2
theorem tmod_turn (a : Int) : a.tmod 411776 = if 0 ≤ a then a % 411776 else -(-a % 411776) := tmod_at a 411776
def nrm (a : Int) : Int := (a + 205888) % 411776 - 205888
theorem nrm_ge (a : Int) : -205888 ≤ nrm a := by unfold nrm; omega
theorem nrm_lt (a : Int) : nrm a < 205888 := by unfold nrm; omega
theorem nrm_hi {a : Int} (h : 205888 ≤ a.tmod 411776) : nrm a = a.tmod 411776 - 411776 := by
  rw [tmod_turn] at *; unfold nrm; split at * <;> omega
theorem nrm_lo {a : Int} (h : a.tmod 411776 < -205888) : nrm a = a.tmod 411776 + 411776 := by
  rw [tmod_turn] at *; unfold nrm; split at * <;> omega
theorem nrm_in {a : Int} (h1 : -205888 ≤ a.tmod 411776) (h2 : a.tmod 411776 < 205888) : nrm a = a.tmod 411776 := by
  rw [tmod_turn] at *; unfold nrm; split at * <;> omega
theorem tmod_ge (a : Int) : -411776 < a.tmod 411776 := by rw [tmod_turn]; split <;> omega
theorem tmod_le (a : Int) : a.tmod 411776 < 411776 := by rw [tmod_turn]; split <;> omega
theorem nrm_id {a : Int} (h1 : -205888 ≤ a) (h2 : a < 205888) : nrm a = a := by unfold nrm; omega
def iabs (x : Int) : Int := if x < 0 then -x else x
theorem iabs_neg {x : Int} (h : x < 0) : iabs x = -x := by unfold iabs; rw [if_pos h]
theorem iabs_pos {x : Int} (h : 0 ≤ x) : iabs x = x := by unfold iabs; rw [if_neg (by omega)]
theorem iabs_ge (x : Int) : 0 ≤ iabs x := by unfold iabs; split <;> omega
theorem iabs_nrm_le (a : Int) : iabs (nrm a) ≤ 205888 := by
  have := nrm_ge a; have := nrm_lt a; unfold iabs; split <;> omega

def poly (x : Int) : Int := mul (quo x 102944) (sub 102873 (mul (mul (quo x 102944) (quo x 102944)) (sub 41906 (mul (mul (quo x 102944) (quo x 102944)) 4569))))
theorem mul_sat (a b : Int) : -536870911 ≤ mul a b ∧ mul a b ≤ 536870911 := ⟨sat_ge _, sat_le _⟩
theorem poly_ge (x : Int) : -536870911 ≤ poly x := (mul_sat _ _).1
theorem poly_le (x : Int) : poly x ≤ 536870911 := (mul_sat _ _).2
def fold (m : Int) : Int := min m (205888 - m)
def sn (a : Int) : Int := if nrm a < 0 then -poly (fold (iabs (nrm a))) else poly (fold (iabs (nrm a)))
theorem sn_neg {a : Int} (h : nrm a < 0) : sn a = -poly (fold (iabs (nrm a))) := by unfold sn; rw [if_pos h]
theorem sn_pos {a : Int} (h : ¬ nrm a < 0) : sn a = poly (fold (iabs (nrm a))) := by unfold sn; rw [if_neg h]
theorem sn_ge (a : Int) : -536870911 ≤ sn a := by
  have := poly_ge (fold (iabs (nrm a))); have := poly_le (fold (iabs (nrm a))); unfold sn; split <;> omega
theorem sn_le (a : Int) : sn a ≤ 536870911 := by
  have := poly_ge (fold (iabs (nrm a))); have := poly_le (fold (iabs (nrm a))); unfold sn; split <;> omega
def cs (a : Int) : Int := sn (102944 - iabs (nrm a))
theorem cs_ge (a : Int) : -536870911 ≤ cs a := sn_ge _
theorem cs_le (a : Int) : cs a ≤ 536870911 := sn_le _
def rlen (a : Int) : Int := isq (cs a * cs a + sn a * sn a)
def rotc (a : Int) : Int := quo (cs a) (rlen a)
def rots (a : Int) : Int := quo (sn a) (rlen a)
theorem fold_le {m : Int} (h : m ≤ 102944) : fold m = m := by unfold fold; omega
theorem fold_gt {m : Int} (h : 102944 < m) : fold m = 205888 - m := by unfold fold; omega

end Go.Proofs.YtdmcdicphohlfaaGreat.Fx

set_option linter.unusedVariables false
namespace Go.Proofs.YtdmcdicphohlfaaGreat.Fx

theorem rdiv_lo {n d q : Int} (hd : 1 ≤ d) (h2 : d ≤ 4611686018427387904) (h3 : -4611686018427387904 ≤ n) (h4 : n ≤ 4611686018427387904) : 2 * (n - rdiv n d * d) ≤ d ∧ 2 * (rdiv n d * d - n) ≤ d := by
  rw [rdiv_in hd h2 h3 h4]; exact rcore_near hd

theorem mul_near {a b : Int} (ha0 : 0 ≤ a) (ha1 : a ≤ 200000) (hb0 : 0 ≤ b) (hb1 : b ≤ 200000) : 2 * (a * b - mul a b * 65536) ≤ 65536 ∧ 2 * (mul a b * 65536 - a * b) ≤ 65536 := by
  have hm := mul_between (a := a) (b := b) (A := 200000) (B := 200000) (by omega) ha1 (by omega) hb1
  have h := rdiv_lo (n := a * b) (d := 65536) (q := 0) (by omega) (by omega) (by omega) (by omega)
  have e : mul a b = rdiv (a * b) 65536 := by
    unfold mul; rw [sat_id (x := a) (by omega) (by omega), sat_id (x := b) (by omega) (by omega)]
    exact sat_id (by omega) (by omega)
  rw [e]; exact h

theorem z_at {x : Int} (h0 : 0 ≤ x) (h1 : x ≤ 102944) : 0 ≤ quo x 102944 ∧ quo x 102944 ≤ 65536 ∧ (51472 ≤ x → 32768 ≤ quo x 102944) := by
  have h := rdiv_lo (n := x * 65536) (d := 102944) (q := 0) (by omega) (by omega) (by omega) (by omega)
  have e : quo x 102944 = rdiv (x * 65536) 102944 := by
    rw [quo_pos (by omega), sat_id (x := x) (by omega) (by omega), show sat 102944 = 102944 from by decide +kernel]
    exact sat_id (by omega) (by omega)
  rw [e]; omega

theorem poly_at {z : Int} (h0 : 0 ≤ z) (h1 : z ≤ 65536) : 0 ≤ mul z (sub 102873 (mul (mul z z) (sub 41906 (mul (mul z z) 4569)))) ∧ mul z (sub 102873 (mul (mul z z) (sub 41906 (mul (mul z z) 4569)))) ≤ 200000 ∧ (32768 ≤ z → 30000 ≤ mul z (sub 102873 (mul (mul z z) (sub 41906 (mul (mul z z) 4569))))) := by
  have a1 := mul_near h0 (by omega : z ≤ 200000) h0 (by omega)
  have a2 : 0 ≤ z * z := Int.mul_nonneg h0 h0
  have a3 : z * z ≤ 65536 * 65536 := Int.mul_le_mul h1 h1 h0 (by omega)
  generalize hy : mul z z = y at *
  have y0 : 0 ≤ y := by omega
  have y1 : y ≤ 65536 := by omega
  have b1 := mul_near y0 (by omega : y ≤ 200000) (by omega : (0 : Int) ≤ 4569) (by omega)
  generalize hv : mul y 4569 = v at *
  have v0 : 0 ≤ v := by omega
  have v1 : v ≤ 4569 := by omega
  have i1 : sub 41906 v = 41906 - v := by
    unfold sub; rw [sat_id (x := 41906) (by omega) (by omega), sat_id (x := v) (by omega) (by omega)]; exact sat_id (by omega) (by omega)
  rw [i1]
  have c0 : 0 ≤ y * (41906 - v) := Int.mul_nonneg y0 (by omega)
  have c1 : y * (41906 - v) ≤ 65536 * 41906 := Int.mul_le_mul y1 (by omega) (by omega) (by omega)
  have c2 := mul_near y0 (by omega : y ≤ 200000) (by omega : (0 : Int) ≤ 41906 - v) (by omega)
  generalize hu : mul y (41906 - v) = u at *
  have u0 : 0 ≤ u := by omega
  have u1 : u ≤ 41906 := by omega
  have i2 : sub 102873 u = 102873 - u := by
    unfold sub; rw [sat_id (x := 102873) (by omega) (by omega), sat_id (x := u) (by omega) (by omega)]; exact sat_id (by omega) (by omega)
  rw [i2]
  have d0 : 0 ≤ z * (102873 - u) := Int.mul_nonneg h0 (by omega)
  have d1 : z * (102873 - u) ≤ 65536 * 102873 := Int.mul_le_mul h1 (by omega) (by omega) (by omega)
  have d2 := mul_near h0 (by omega : z ≤ 200000) (by omega : (0 : Int) ≤ 102873 - u) (by omega)
  have d3 : z * 60967 ≤ z * (102873 - u) := Int.mul_le_mul_of_nonneg_left (by omega) h0
  refine ⟨by omega, by omega, fun h => by omega⟩

theorem poly_of {x : Int} (h0 : 0 ≤ x) (h1 : x ≤ 102944) : 0 ≤ poly x ∧ poly x ≤ 200000 ∧ (51472 ≤ x → 30000 ≤ poly x) := by
  have z := z_at h0 h1
  have p := poly_at z.1 z.2.1
  unfold poly
  exact ⟨p.1, p.2.1, fun h => p.2.2 (z.2.2 h)⟩

theorem cs_sn (a : Int) : ∃ p q : Int, 0 ≤ p ∧ p ≤ 200000 ∧ 0 ≤ q ∧ q ≤ 200000 ∧ (30000 ≤ p ∨ 30000 ≤ q) ∧ (cs a = p ∨ cs a = -p) ∧ (sn a = q ∨ sn a = -q) := by
  have h1 := nrm_ge a; have h2 := nrm_lt a
  have i0 := iabs_ge (nrm a); have i1 := iabs_nrm_le a
  have k0 : nrm (102944 - iabs (nrm a)) = 102944 - iabs (nrm a) := nrm_id (by omega) (by omega)
  have k1 : 0 ≤ fold (iabs (nrm a)) ∧ fold (iabs (nrm a)) ≤ 102944 ∧ fold (iabs (102944 - iabs (nrm a))) = 102944 - fold (iabs (nrm a)) := by
    generalize iabs (nrm a) = m at *
    unfold fold iabs; split <;> omega
  have P := poly_of (x := 102944 - fold (iabs (nrm a))) (by omega) (by omega)
  have Q := poly_of (x := fold (iabs (nrm a))) (by omega) (by omega)
  refine ⟨poly (102944 - fold (iabs (nrm a))), poly (fold (iabs (nrm a))), P.1, P.2.1, Q.1, Q.2.1, ?_, ?_, ?_⟩
  · by_cases h : 51472 ≤ fold (iabs (nrm a))
    · exact .inr (Q.2.2 h)
    · exact .inl (P.2.2 (by omega))
  · unfold cs sn; rw [k0, k1.2.2]; split
    · exact .inr rfl
    · exact .inl rfl
  · unfold sn; split
    · exact .inr rfl
    · exact .inl rfl

theorem sq_of {x p : Int} (h : x = p ∨ x = -p) : x * x = p * p := by
  rcases h with rfl | rfl
  · rfl
  · rw [Int.neg_mul, Int.mul_neg, Int.neg_neg]

theorem sq_ge {p k : Int} (hk : 0 ≤ k) (h : k ≤ p) : k * k ≤ p * p := Int.mul_le_mul h h hk (by omega)
theorem sq_nonneg (x : Int) : 0 ≤ x * x := by
  rcases Int.le_total 0 x with h | h
  · exact Int.mul_nonneg h h
  · exact Int.mul_nonneg_of_nonpos_of_nonpos h h

theorem rlen_of (a : Int) : 30000 ≤ rlen a ∧ rlen a ≤ 300000 ∧ rlen a * rlen a ≤ cs a * cs a + sn a * sn a ∧ cs a * cs a + sn a * sn a ≤ rlen a * rlen a + 2 * rlen a := by
  obtain ⟨p, q, hp0, hp1, hq0, hq1, hor, hc, hs⟩ := cs_sn a
  have ec := sq_of hc; have es := sq_of hs
  have p1 := mul_between (a := p) (b := p) (A := 200000) (B := 200000) (by omega) hp1 (by omega) hp1
  have q1 := mul_between (a := q) (b := q) (A := 200000) (B := 200000) (by omega) hq1 (by omega) hq1
  have p0 := sq_nonneg p; have q0 := sq_nonneg q
  have lo : 900000000 ≤ p * p + q * q := by
    rcases hor with h | h
    · have := sq_ge (k := 30000) (by omega) h; omega
    · have := sq_ge (k := 30000) (by omega) h; omega
  have hi := isq_is (n := cs a * cs a + sn a * sn a) (by omega) (by omega)
  have e : rlen a = isq (cs a * cs a + sn a * sn a) := rfl
  rw [← e] at hi
  generalize rlen a = l at *
  have ex : (l + 1) * (l + 1) = l * l + 2 * l + 1 := by rw [Int.add_mul, Int.mul_add]; omega
  refine ⟨?_, ?_, hi.2.1, by omega⟩
  · exact sq_unique (a := 30000) (b := l) (n := cs a * cs a + sn a * sn a) (by omega) hi.1 (by omega) (by omega)
  · false_or_by_contra
    have := sq_ge (k := 300001) (p := l) (by omega) (by omega)
    omega

theorem quo_len {c l : Int} (h1 : -200000 ≤ c) (h2 : c ≤ 200000) (h3 : 30000 ≤ l) (h4 : l ≤ 300000) : 2 * (c * 65536 - quo c l * l) ≤ l ∧ 2 * (quo c l * l - c * 65536) ≤ l := by
  have h := rdiv_lo (n := c * 65536) (d := l) (q := 0) (by omega) (by omega) (by omega) (by omega)
  have e : quo c l = rdiv (c * 65536) l := by
    rw [quo_pos (by omega), sat_id (x := c) (by omega) (by omega), sat_id (x := l) (by omega) (by omega)]
    have b1 : rdiv (c * 65536) l ≤ 536870911 := by
      false_or_by_contra
      have := Int.mul_le_mul (a := 536870912) (c := rdiv (c * 65536) l) (b := 30000) (d := l) (by omega) h3 (by omega) (by omega)
      omega
    have b2 : -536870911 ≤ rdiv (c * 65536) l := by
      false_or_by_contra
      have := Int.mul_le_mul (a := 536870912) (c := -rdiv (c * 65536) l) (b := 30000) (d := l) (by omega) h3 (by omega) (by omega)
      rw [Int.neg_mul] at this
      omega
    exact sat_id b2 b1
  rw [e]; exact h

theorem unit_sum {c s l C S : Int} (hl0 : 30000 ≤ l) (hl1 : l ≤ 300000) (n1 : l * l ≤ c * c + s * s) (n2 : c * c + s * s ≤ l * l + 2 * l)
    (c1 : 2 * (c * 65536 - C * l) ≤ l) (c2 : 2 * (C * l - c * 65536) ≤ l) (s1 : 2 * (s * 65536 - S * l) ≤ l) (s2 : 2 * (S * l - s * 65536) ≤ l) :
    -524288 < C * C + S * S - 4294967296 ∧ C * C + S * S - 4294967296 < 524288 := by
  -- the quotients' errors
  obtain ⟨E, hE⟩ : ∃ E, C * l = c * 65536 + E := ⟨C * l - c * 65536, by omega⟩
  obtain ⟨F, hF⟩ : ∃ F, S * l = s * 65536 + F := ⟨S * l - s * 65536, by omega⟩
  have e1 : -l ≤ 2 * E := by omega
  have e2 : 2 * E ≤ l := by omega
  have f1 : -l ≤ 2 * F := by omega
  have f2 : 2 * F ≤ l := by omega
  have L0 : 30000 * l ≤ l * l := Int.mul_le_mul_of_nonneg_right hl0 (by omega)
  -- the products that occur
  have cC := mul_between (a := c) (b := 2 * E) (A := c.natAbs) (B := l) (by omega) (by omega) e1 e2
  have sS := mul_between (a := s) (b := 2 * F) (A := s.natAbs) (B := l) (by omega) (by omega) f1 f2
  have EE := mul_between (a := 2 * E) (b := 2 * E) (A := l) (B := l) e1 e2 e1 e2
  have FF := mul_between (a := 2 * F) (b := 2 * F) (A := l) (B := l) f1 f2 f1 f2
  have E0 := sq_nonneg E; have F0 := sq_nonneg F
  have k1 : c * (2 * E) = 2 * (c * E) := by grind
  have k2 : s * (2 * F) = 2 * (s * F) := by grind
  have k3 : 2 * E * (2 * E) = 4 * (E * E) := by grind
  have k4 : 2 * F * (2 * F) = 4 * (F * F) := by grind
  rw [k1] at cC; rw [k2] at sS; rw [k3] at EE; rw [k4] at FF
  -- |c| and |s| are at most l + 1
  have ca : (c.natAbs : Int) ≤ l + 1 := by
    false_or_by_contra
    have h := sq_ge (k := l + 2) (p := c.natAbs) (by omega) (by omega)
    have h2 : (c.natAbs : Int) * c.natAbs = c * c := Int.natAbs_mul_self' c
    have h3 : (l + 2) * (l + 2) = l * l + 4 * l + 4 := by rw [Int.add_mul, Int.mul_add]; omega
    have := sq_nonneg s
    omega
  have sa : (s.natAbs : Int) ≤ l + 1 := by
    false_or_by_contra
    have h := sq_ge (k := l + 2) (p := s.natAbs) (by omega) (by omega)
    have h2 : (s.natAbs : Int) * s.natAbs = s * s := Int.natAbs_mul_self' s
    have h3 : (l + 2) * (l + 2) = l * l + 4 * l + 4 := by rw [Int.add_mul, Int.mul_add]; omega
    have := sq_nonneg c
    omega
  have cl : (c.natAbs : Int) * l ≤ (l + 1) * l := Int.mul_le_mul_of_nonneg_right ca (by omega)
  have sl : (s.natAbs : Int) * l ≤ (l + 1) * l := Int.mul_le_mul_of_nonneg_right sa (by omega)
  have ll : (l + 1) * l = l * l + l := by rw [Int.add_mul]; omega
  -- the squares
  have q1 : C * l * (C * l) = 4294967296 * (c * c) + 131072 * (c * E) + E * E := by rw [hE]; grind
  have q2 : S * l * (S * l) = 4294967296 * (s * s) + 131072 * (s * F) + F * F := by rw [hF]; grind
  have q3 : C * l * (C * l) = C * C * (l * l) := by grind
  have q4 : S * l * (S * l) = S * S * (l * l) := by grind
  have q5 : (C * C + S * S - 4294967296) * (l * l) = C * C * (l * l) + S * S * (l * l) - 4294967296 * (l * l) := by rw [Int.sub_mul, Int.add_mul]
  generalize C * C + S * S - 4294967296 = D at *
  generalize l * l = M at *
  have up : D * M < 524288 * M := by omega
  have dn : -(524288 * M) < D * M := by omega
  constructor
  · false_or_by_contra
    have : D * M ≤ -524288 * M := Int.mul_le_mul_of_nonneg_right (by omega) (by omega)
    omega
  · false_or_by_contra
    have : 524288 * M ≤ D * M := Int.mul_le_mul_of_nonneg_right (by omega) (by omega)
    omega

theorem cs_sn_le (a : Int) : -200000 ≤ cs a ∧ cs a ≤ 200000 ∧ -200000 ≤ sn a ∧ sn a ≤ 200000 := by
  obtain ⟨p, q, hp0, hp1, hq0, hq1, hor, hc, hs⟩ := cs_sn a
  omega

theorem rot_unit (a : Int) : -524288 < rotc a * rotc a + rots a * rots a - 4294967296 ∧ rotc a * rotc a + rots a * rots a - 4294967296 < 524288 := by
  obtain ⟨l0, l1, n1, n2⟩ := rlen_of a
  obtain ⟨b1, b2, b3, b4⟩ := cs_sn_le a
  obtain ⟨c1, c2⟩ := quo_len b1 b2 l0 l1
  obtain ⟨s1, s2⟩ := quo_len b3 b4 l0 l1
  exact unit_sum l0 l1 n1 n2 c1 c2 s1 s2

theorem rot_le (a : Int) : -131072 ≤ rotc a ∧ rotc a ≤ 131072 ∧ -131072 ≤ rots a ∧ rots a ≤ 131072 := by
  have h := rot_unit a
  have c0 := sq_nonneg (rotc a); have s0 := sq_nonneg (rots a)
  have key : ∀ x : Int, x * x ≤ 4295491584 → -131072 ≤ x ∧ x ≤ 131072 := by
    intro x hx
    constructor
    · false_or_by_contra
      have := sq_ge (k := 131073) (p := -x) (by omega) (by omega)
      rw [Int.neg_mul, Int.mul_neg, Int.neg_neg] at this; omega
    · false_or_by_contra
      have := sq_ge (k := 131073) (p := x) (by omega) (by omega)
      omega
  have k1 := key (rotc a) (by omega)
  have k2 := key (rots a) (by omega)
  omega
theorem rot_unit_lo (a : Int) : -524288 < rotc a * rotc a + rots a * rots a - 4294967296 := (rot_unit a).1
theorem rot_unit_hi (a : Int) : rotc a * rotc a + rots a * rots a - 4294967296 < 524288 := (rot_unit a).2

end Go.Proofs.YtdmcdicphohlfaaGreat.Fx

set_option linter.unusedVariables false
namespace Go.Proofs.YtdmcdicphohlfaaGreat.Fx

def tpx (px a vx vy : Int) : Int := add (rotx (rotc a) (rots a) vx vy) px
def tpy (py a vx vy : Int) : Int := add (roty (rotc a) (rots a) vx vy) py
def inw (x : Int) : Bool := decide (-268435456 ≤ x) && decide (x ≤ 268435456)
def tval (px py a : Int) : Bool := inw px && inw py && decide (-205888 ≤ a) && decide (a < 205888)
theorem tval_iff {px py a : Int} : tval px py a = true ↔ (-268435456 ≤ px ∧ px ≤ 268435456) ∧ (-268435456 ≤ py ∧ py ≤ 268435456) ∧ -205888 ≤ a ∧ a < 205888 := by
  simp [tval, inw, and_assoc]
theorem rdiv_small {n : Int} (h1 : -1099511627776 ≤ n) (h2 : n ≤ 1099511627776) : -16777217 ≤ rdiv n 65536 ∧ rdiv n 65536 ≤ 16777217 := by
  have := rdiv_lo (n := n) (d := 65536) (q := 0) (by omega) (by omega) (by omega) (by omega)
  omega
theorem rot_small {a cx cy : Int} (h1 : -1048576 ≤ cx) (h2 : cx ≤ 1048576) (h3 : -1048576 ≤ cy) (h4 : cy ≤ 1048576) :
    (-16777217 ≤ rotx (rotc a) (rots a) cx cy ∧ rotx (rotc a) (rots a) cx cy ≤ 16777217) ∧ (-16777217 ≤ roty (rotc a) (rots a) cx cy ∧ roty (rotc a) (rots a) cx cy ≤ 16777217) := by
  obtain ⟨c1, c2, s1, s2⟩ := rot_le a
  have a1 := mul_between (a := rotc a) (b := cx) (A := 131072) (B := 1048576) (by omega) (by omega) (by omega) (by omega)
  have a2 := mul_between (a := rots a) (b := cy) (A := 131072) (B := 1048576) (by omega) (by omega) (by omega) (by omega)
  have a3 := mul_between (a := rots a) (b := cx) (A := 131072) (B := 1048576) (by omega) (by omega) (by omega) (by omega)
  have a4 := mul_between (a := rotc a) (b := cy) (A := 131072) (B := 1048576) (by omega) (by omega) (by omega) (by omega)
  unfold rotx roty
  rw [sat_id (x := rotc a) (by omega) (by omega), sat_id (x := rots a) (by omega) (by omega), sat_id (x := cx) (by omega) (by omega), sat_id (x := cy) (by omega) (by omega)]
  have r1 := rdiv_small (n := rotc a * cx - rots a * cy) (by omega) (by omega)
  have r2 := rdiv_small (n := rots a * cx + rotc a * cy) (by omega) (by omega)
  rw [sat_id (by omega) (by omega), sat_id (by omega) (by omega)]
  exact ⟨r1, r2⟩
theorem back {r p : Int} (h1 : -16777217 ≤ r) (h2 : r ≤ 16777217) (h3 : -268435456 ≤ p) (h4 : p ≤ 268435456) : sub (add (add r p) 0) r = p := by
  rw [add_zero, add_sat]; unfold add sub
  rw [sat_id (x := r) (by omega) (by omega), sat_id (x := p) (by omega) (by omega), sat_id (x := r + p) (by omega) (by omega), sat_id (x := r + p) (by omega) (by omega)]
  rw [sat_id (by omega) (by omega)]; omega
theorem rlen_none : rlen 0 = 65536 := by
  have h1 : cs 0 = 65536 := by decide +kernel
  have h2 : sn 0 = 0 := by decide +kernel
  unfold rlen; rw [h1, h2]; exact isq_eq (by omega) (by omega) (by omega) (by omega) (by omega)
theorem rotc_none : rotc 0 = 65536 := by
  have h1 : cs 0 = 65536 := by decide +kernel
  unfold rotc; rw [h1, rlen_none]; decide +kernel
theorem rots_none : rots 0 = 0 := by
  have h2 : sn 0 = 0 := by decide +kernel
  unfold rots; rw [h2, rlen_none]; decide +kernel
theorem rotx_none (x y : Int) : rotx 65536 0 x y = sat x := by
  unfold rotx; rw [sat_one, sat_zero, show 65536 * sat x - 0 * sat y = sat x * 65536 from by omega, rdiv_one, sat_sat]
theorem roty_none (x y : Int) : roty 65536 0 x y = sat y := by
  unfold roty; rw [sat_one, sat_zero, show 0 * sat x + 65536 * sat y = sat y * 65536 from by omega, rdiv_one, sat_sat]
theorem sub_sat (a b : Int) : sat (sub a b) = sub a b := by unfold sub; rw [sat_sat]
theorem add_satl (a b : Int) : add (sat a) b = add a b := by unfold add; rw [sat_sat]
theorem tpx_none (px vx vy : Int) : tpx px 0 vx vy = add vx px := by unfold tpx; rw [rotc_none, rots_none, rotx_none, add_satl]
theorem tpy_none (py vx vy : Int) : tpy py 0 vx vy = add vy py := by unfold tpy; rw [rotc_none, rots_none, roty_none, add_satl]
end Go.Proofs.YtdmcdicphohlfaaGreat.Fx
