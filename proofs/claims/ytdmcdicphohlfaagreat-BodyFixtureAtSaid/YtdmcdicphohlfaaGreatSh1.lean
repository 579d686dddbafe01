/- Plain mathematics of chapter 12: the Lean functions that the contracts of package shape and of its reference speak of. No program is imported.
Plain mathematics of shapes, continued: a rotated polygon of some area is not flat. No program is imported.
Plain mathematics of shapes, continued: what a shape contains lies in its box. No program is imported. -/
import Derived.Test.YtdmcdicphohlfaaGreatMa4
import Derived.Test.YtdmcdicphohlfaaGreatMa3
import Derived.Test.YtdmcdicphohlfaaGreatMa2

set_option linter.unusedVariables false
namespace Go.Proofs.YtdmcdicphohlfaaGreat.Fx

def cntok (K : Int) (n : Nat) : Bool := if K = 3 then decide (3 ≤ n) && decide (n ≤ 8) else decide ((n : Int) = K)
def radbad (K R : Int) : Bool := (decide (K = 3) && decide (R ≠ 0)) || (decide (K ≠ 3) && (decide (R < 2048) || decide (524288 < R)))
def capbad (K : Int) (ps : List Pt) : Bool := decide (K = 2) && decide (vlen (sub (hp' ps 1).1 (hp' ps 0).1) (sub (hp' ps 1).2 (hp' ps 0).2) < 4096)
def polbad (K : Int) (ps : List Pt) : Bool := decide (K = 3) && (!cvx ps || decide (shortP ps < 4096) || decide (areaP ps < 256))
def valS (K R : Int) (ps : List Pt) : Int :=
  if K < 1 ∨ 3 < K then 10 else if cntok K ps.length = false then 11 else if ¬ (∀ p ∈ ps, inrP p) then 6 else if radbad K R = true then 6 else if capbad K ps = true then 12 else if polbad K ps = true then 12 else 0
theorem valS_zero {K R : Int} {ps : List Pt} : valS K R ps = 0 ↔ (1 ≤ K ∧ K ≤ 3) ∧ cntok K ps.length = true ∧ (∀ p ∈ ps, inrP p) ∧ radbad K R = false ∧ capbad K ps = false ∧ polbad K ps = false := by
  unfold valS
  split
  · constructor
    · intro h; cases h
    · intro h; omega
  · rename_i h0
    split
    · rename_i h1; rw [h1]; constructor <;> intro h <;> simp at h
    · rename_i h1
      split
      · rename_i h2; constructor
        · intro h; cases h
        · intro h; exact absurd h.2.2.1 h2
      · rename_i h2
        split
        · rename_i h3; rw [h3]; constructor <;> intro h <;> simp at h
        · rename_i h3
          split
          · rename_i h4; rw [h4]; constructor <;> intro h <;> simp at h
          · rename_i h4
            split
            · rename_i h5; rw [h5]; constructor <;> intro h <;> simp at h
            · rename_i h5
              simp only [Bool.not_eq_true, Bool.not_eq_false, Classical.not_not] at h1 h2 h3 h4 h5
              exact ⟨fun _ => ⟨by omega, h1, h2, h3, h4, h5⟩, fun _ => rfl⟩
def tr (px py a : Int) (p : Pt) : Pt := (tpx px a p.1 p.2, tpy py a p.1 p.2)
def core (K R : Int) (ps : List Pt) (px py a : Int) : List Pt := if valS K R ps = 0 then ps.map (tr px py a) else []
theorem core_ok {K R : Int} {ps : List Pt} (px py a : Int) (h : valS K R ps = 0) : core K R ps px py a = ps.map (tr px py a) := if_pos h
theorem core_no {K R : Int} {ps : List Pt} (px py a : Int) (h : ¬ valS K R ps = 0) : core K R ps px py a = [] := if_neg h
def bndS (K R : Int) (ps : List Pt) (px py a : Int) : Bx := if valS K R ps = 0 then (Bx.pts (ps.map (tr px py a))).mar R else Bx.zero
def polin (l : List Pt) (x y : Int) : Bool := decide (∀ i, i < l.length → or3 (hp' l i) (hp' l (i + 1)) (x, y) ≠ -1)
def conC (K R : Int) (l : List Pt) (x y : Int) : Bool :=
  if K = 1 then decide (vlen (sub x (hp' l 0).1) (sub y (hp' l 0).2) ≤ R) else if K = 2 then decide (sdist x y x y (hp' l 0).1 (hp' l 0).2 (hp' l 1).1 (hp' l 1).2 ≤ R) else polin l x y
def conS (K R : Int) (ps : List Pt) (px py a x y : Int) : Bool := decide (valS K R ps = 0) && conC K R (ps.map (tr px py a)) x y
theorem val_len {K R : Int} {ps : List Pt} (h : valS K R ps = 0) : 1 ≤ ps.length ∧ ps.length ≤ 8 ∧ (K = 1 → ps.length = 1) ∧ (K = 2 → ps.length = 2) ∧ (K = 3 → 3 ≤ ps.length) := by
  obtain ⟨h1, h2, _⟩ := valS_zero.1 h
  unfold cntok at h2
  split at h2
  · simp at h2; omega
  · simp at h2; omega
theorem val_rad {K R : Int} {ps : List Pt} (h : valS K R ps = 0) : 0 ≤ R ∧ R ≤ 524288 ∧ (K = 3 → R = 0) := by
  obtain ⟨h1, _, _, h2, _⟩ := valS_zero.1 h
  unfold radbad at h2
  simp only [Bool.or_eq_false_iff, Bool.and_eq_false_iff, decide_eq_false_iff_not, ne_eq, Classical.not_not] at h2
  omega
theorem tr_in {px py a : Int} (hv : tval px py a = true) {p : Pt} (hp : inrP p) : (-285212673 ≤ (tr px py a p).1 ∧ (tr px py a p).1 ≤ 285212673) ∧ (-285212673 ≤ (tr px py a p).2 ∧ (tr px py a p).2 ≤ 285212673) ∧
    (tr px py a p).1 = rotx (rotc a) (rots a) p.1 p.2 + px ∧ (tr px py a p).2 = roty (rotc a) (rots a) p.1 p.2 + py := by
  obtain ⟨hx, hy, _⟩ := tval_iff.1 hv
  obtain ⟨⟨r1, r2⟩, r3, r4⟩ := rot_small (a := a) hp.1 hp.2.1 hp.2.2.1 hp.2.2.2
  have e1 : tpx px a p.1 p.2 = rotx (rotc a) (rots a) p.1 p.2 + px := by
    unfold tpx add; rw [sat_id (x := rotx (rotc a) (rots a) p.1 p.2) (by omega) (by omega), sat_id (x := px) (by omega) (by omega), sat_id (by omega) (by omega)]
  have e2 : tpy py a p.1 p.2 = roty (rotc a) (rots a) p.1 p.2 + py := by
    unfold tpy add; rw [sat_id (x := roty (rotc a) (rots a) p.1 p.2) (by omega) (by omega), sat_id (x := py) (by omega) (by omega), sat_id (by omega) (by omega)]
  show (-285212673 ≤ tpx px a p.1 p.2 ∧ tpx px a p.1 p.2 ≤ 285212673) ∧ (-285212673 ≤ tpy py a p.1 p.2 ∧ tpy py a p.1 p.2 ≤ 285212673) ∧ _
  refine ⟨by omega, by omega, e1, e2⟩
theorem hp_map (f : Pt → Pt) {ps : List Pt} (h0 : 0 < ps.length) (i : Nat) : hp' (ps.map f) i = f (hp' ps i) := by
  unfold hp'
  have hm := Nat.mod_lt i h0
  rw [List.length_map, List.getD_eq_getElem?_getD, List.getD_eq_getElem?_getD, List.getElem?_map, List.getElem?_eq_getElem hm]
  rfl

/-! ### A point that a closed walk of points keeps to its left lies in the walk's box, or all of them lie on one line -/
def cr (v a b : Pt) : Int := (a.1 - v.1) * (b.2 - v.2) - (a.2 - v.2) * (b.1 - v.1)
theorem dt_cr (a b v : Pt) : dt a b v = cr v a b := by unfold dt cr; grind
theorem cr_anti (v a b : Pt) : cr v b a = -cr v a b := by unfold cr; grind
theorem cr_self (v a : Pt) : cr v a a = 0 := by unfold cr; grind
theorem dt_crs (v a b c : Pt) : dt a b c = cr v a b + cr v b c - cr v a c := by unfold dt cr; grind
theorem walk_le {v : Pt} {l : List Pt} (h : Pt → Int) (hlin : ∀ a b c, h b * cr v a c = h a * cr v b c + h c * cr v a b) (hpos : ∀ i, 0 < h (hp' l i)) (hk : ∀ i, 0 ≤ cr v (hp' l i) (hp' l (i + 1))) (i : Nat) : ∀ d, 0 ≤ cr v (hp' l i) (hp' l (i + d))
  | 0 => by rw [Nat.add_zero, cr_self]; exact Int.le_refl _
  | d + 1 => by
    have ih := walk_le h hlin hpos hk i d
    have e := hlin (hp' l i) (hp' l (i + d)) (hp' l (i + (d + 1)))
    have k1 := hk (i + d)
    rw [Nat.add_assoc] at k1
    have p1 := Int.mul_nonneg (Int.le_of_lt (hpos i)) k1
    have p2 := Int.mul_nonneg (Int.le_of_lt (hpos (i + (d + 1)))) ih
    have p3 : 0 ≤ h (hp' l (i + d)) * cr v (hp' l i) (hp' l (i + (d + 1))) := by omega
    exact Int.nonneg_of_mul_nonneg_right p3 (hpos _)
theorem walk_flat {v : Pt} {l : List Pt} (h0 : 0 < l.length) (h : Pt → Int) (hlin : ∀ a b c, h b * cr v a c = h a * cr v b c + h c * cr v a b) (hpos : ∀ i, 0 < h (hp' l i)) (hk : ∀ i, 0 ≤ cr v (hp' l i) (hp' l (i + 1))) (i j : Nat) : cr v (hp' l i) (hp' l j) = 0 := by
  have per : ∀ (k n : Nat), hp' l (k + n * l.length) = hp' l k := fun k n => by
    induction n with
    | zero => rw [Nat.zero_mul, Nat.add_zero]
    | succ n ih => rw [Nat.succ_mul, ← Nat.add_assoc, hp_add, ih]
  have key : ∀ i j : Nat, 0 ≤ cr v (hp' l i) (hp' l j) := fun i j => by
    have := walk_le h hlin hpos hk i (j + i * l.length - i)
    rw [show i + (j + i * l.length - i) = j + i * l.length from by
      have : i * 1 ≤ i * l.length := Nat.mul_le_mul_left _ h0
      omega, per] at this
    exact this
  have h1 := key i j
  have h2 := key j i
  rw [cr_anti] at h2
  omega

def fan (l : Nat → Pt) : Nat → Int
  | 0 => 0
  | k + 1 => fan l k + dt (l 0) (l (k + 1)) (l (k + 2))
def rim (v : Pt) (l : Nat → Pt) : Nat → Int
  | 0 => 0
  | k + 1 => rim v l k + cr v (l k) (l (k + 1))
theorem fan_rim (v : Pt) (l : Nat → Pt) : ∀ k, fan l k = rim v l (k + 1) + cr v (l (k + 1)) (l 0)
  | 0 => by unfold fan rim rim; rw [cr_anti v (l 1) (l 0), Nat.zero_add]; omega
  | k + 1 => by
    unfold fan rim
    rw [fan_rim v l k, dt_crs v, cr_anti v (l 0) (l (k + 1)), cr_anti v (l 0) (l (k + 2))]
    show _ = _ + cr v (l (k + 1)) (l (k + 2)) + -cr v (l 0) (l (k + 2))
    omega

end Go.Proofs.YtdmcdicphohlfaaGreat.Fx

set_option linter.unusedVariables false
namespace Go.Proofs.YtdmcdicphohlfaaGreat.Fx

theorem hp_mod1 (l : List Pt) (i : Nat) : hp' l (i % l.length) = hp' l i ∧ hp' l (i % l.length + 1) = hp' l (i + 1) := by
  unfold hp'; rw [Nat.mod_mod, Nat.mod_add_mod]; exact ⟨rfl, rfl⟩

theorem rot_near {c s x y : Int} (hc : -131072 ≤ c ∧ c ≤ 131072) (hs : -131072 ≤ s ∧ s ≤ 131072) (hx : -1048576 ≤ x ∧ x ≤ 1048576) (hy : -1048576 ≤ y ∧ y ≤ 1048576) :
    (∃ e, 65536 * rotx c s x y = c * x - s * y + e ∧ -32768 ≤ e ∧ e ≤ 32768) ∧ ∃ e, 65536 * roty c s x y = s * x + c * y + e ∧ -32768 ≤ e ∧ e ≤ 32768 := by
  have p1 := mul_between hc.1 hc.2 hx.1 hx.2
  have p2 := mul_between hc.1 hc.2 hy.1 hy.2
  have p3 := mul_between hs.1 hs.2 hx.1 hx.2
  have p4 := mul_between hs.1 hs.2 hy.1 hy.2
  unfold rotx roty
  rw [sat_id (x := c) (by omega) (by omega), sat_id (x := s) (by omega) (by omega), sat_id (x := x) (by omega) (by omega), sat_id (x := y) (by omega) (by omega)]
  have q1 := rdiv_small (n := c * x - s * y) (by omega) (by omega)
  have q2 := rdiv_small (n := s * x + c * y) (by omega) (by omega)
  have d1 := rdiv_lo (q := 0) (n := c * x - s * y) (d := 65536) (by omega) (by omega) (by omega) (by omega)
  have d2 := rdiv_lo (q := 0) (n := s * x + c * y) (d := 65536) (by omega) (by omega) (by omega) (by omega)
  rw [sat_id (x := rdiv (c * x - s * y) 65536) (by omega) (by omega), sat_id (x := rdiv (s * x + c * y) 65536) (by omega) (by omega)]
  exact ⟨⟨65536 * rdiv (c * x - s * y) 65536 - (c * x - s * y), by omega, by omega, by omega⟩, ⟨65536 * rdiv (s * x + c * y) 65536 - (s * x + c * y), by omega, by omega, by omega⟩⟩

theorem abs_two (c : Int) : ∃ C : Int, 0 ≤ C ∧ -C ≤ c ∧ c ≤ C ∧ C * C = c * c := by
  rcases Int.le_total 0 c with h | h
  · exact ⟨c, h, by omega, by omega, rfl⟩
  · exact ⟨-c, by omega, by omega, by omega, by grind⟩
theorem sum_abs {c s : Int} (h : c * c + s * s < 4295491584) : ∃ C S : Int, 0 ≤ C ∧ 0 ≤ S ∧ -C ≤ c ∧ c ≤ C ∧ -S ≤ s ∧ s ≤ S ∧ C + S ≤ 92688 := by
  obtain ⟨C, c0, c1, c2, c3⟩ := abs_two c
  obtain ⟨S, s0, s1, s2, s3⟩ := abs_two s
  refine ⟨C, S, c0, s0, c1, c2, s1, s2, ?_⟩
  by_cases hh : C + S ≤ 92688
  · exact hh
  have h1 : (92688 : Int) * 92688 ≤ (C + S) * (C + S) := Int.mul_le_mul (by omega) (by omega) (by omega) (by omega)
  have h2 : (C + S) * (C + S) = 2 * (C * C + S * S) - (C - S) * (C - S) := by grind
  have h3 := sq_nn (C - S)
  omega

theorem step_err {c s x y z t m1 m2 n1 n2 e1 e2 f1 f2 : Int} (hD : c * c + s * s < 4295491584) (hx : -1048576 ≤ x ∧ x ≤ 1048576) (hy : -1048576 ≤ y ∧ y ≤ 1048576) (hz : -1048576 ≤ z ∧ z ≤ 1048576) (ht : -1048576 ≤ t ∧ t ≤ 1048576)
    (h1 : 65536 * m1 = c * x - s * y + e1) (h2 : 65536 * m2 = s * x + c * y + e2) (h3 : 65536 * n1 = c * z - s * t + f1) (h4 : 65536 * n2 = s * z + c * t + f2)
    (b1 : -32768 ≤ e1 ∧ e1 ≤ 32768) (b2 : -32768 ≤ e2 ∧ e2 ≤ 32768) (b3 : -32768 ≤ f1 ∧ f1 ≤ 32768) (b4 : -32768 ≤ f2 ∧ f2 ≤ 32768) :
    (c * c + s * s) * (x * t - y * z) - 12738943866896384 ≤ 4294967296 * (m1 * n2 - m2 * n1) ∧ 4294967296 * (m1 * n2 - m2 * n1) ≤ (c * c + s * s) * (x * t - y * z) + 12738943866896384 := by
  obtain ⟨C, S, c0, s0, c1, c2, s1, s2, hCS⟩ := sum_abs hD
  have p1 := mul_between c1 c2 hx.1 hx.2
  have p2 := mul_between c1 c2 hy.1 hy.2
  have p3 := mul_between s1 s2 hx.1 hx.2
  have p4 := mul_between s1 s2 hy.1 hy.2
  have p5 := mul_between c1 c2 hz.1 hz.2
  have p6 := mul_between c1 c2 ht.1 ht.2
  have p7 := mul_between s1 s2 hz.1 hz.2
  have p8 := mul_between s1 s2 ht.1 ht.2
  have id1 : (c * x - s * y) * (s * z + c * t) - (s * x + c * y) * (c * z - s * t) = (c * c + s * s) * (x * t - y * z) := by grind
  have id2 : 4294967296 * (m1 * n2 - m2 * n1) = (65536 * m1) * (65536 * n2) - (65536 * m2) * (65536 * n1) := by grind
  rw [h1, h2, h3, h4] at id2
  generalize hX : c * x - s * y = X at *
  generalize hY : s * x + c * y = Y at *
  generalize hZ : c * z - s * t = Z at *
  generalize hT : s * z + c * t = T at *
  have id3 : (X + e1) * (T + f2) - (Y + e2) * (Z + f1) = (X * T - Y * Z) + (X * f2 - Y * f1) + (e1 * T - e2 * Z) + (e1 * f2 - e2 * f1) := by grind
  have bX : -97190412288 ≤ X ∧ X ≤ 97190412288 := by omega
  have bY : -97190412288 ≤ Y ∧ Y ≤ 97190412288 := by omega
  have bZ : -97190412288 ≤ Z ∧ Z ≤ 97190412288 := by omega
  have bT : -97190412288 ≤ T ∧ T ≤ 97190412288 := by omega
  have q1 := mul_between bX.1 bX.2 b4.1 b4.2
  have q2 := mul_between bY.1 bY.2 b3.1 b3.2
  have q3 := mul_between b1.1 b1.2 bT.1 bT.2
  have q4 := mul_between b2.1 b2.2 bZ.1 bZ.2
  have q5 := mul_between b1.1 b1.2 b4.1 b4.2
  have q6 := mul_between b2.1 b2.2 b3.1 b3.2
  generalize (c * c + s * s) * (x * t - y * z) = E at *
  clear p1 p2 p3 p4 p5 p6 p7 p8 hX hY hZ hT h1 h2 h3 h4
  omega

def ro (a : Int) (p : Pt) : Pt := (rotx (rotc a) (rots a) p.1 p.2, roty (rotc a) (rots a) p.1 p.2)
theorem rim_err {a : Int} (v : Nat → Pt) (hv : ∀ i, inrP (v i)) : ∀ k : Nat,
    (rotc a * rotc a + rots a * rots a) * rim (0, 0) v k - 12738943866896384 * k ≤ 4294967296 * rim (0, 0) (fun i => ro a (v i)) k ∧ 4294967296 * rim (0, 0) (fun i => ro a (v i)) k ≤ (rotc a * rotc a + rots a * rots a) * rim (0, 0) v k + 12738943866896384 * k
  | 0 => by unfold rim; omega
  | k + 1 => by
    obtain ⟨ih1, ih2⟩ := rim_err (a := a) v hv k
    have hr := rot_le a
    have hD := rot_unit_hi a
    have i1 := hv k
    have i2 := hv (k + 1)
    unfold inrP at i1 i2
    obtain ⟨⟨e1, h1, b1⟩, e2, h2, b2⟩ := rot_near (c := rotc a) (s := rots a) (x := (v k).1) (y := (v k).2) ⟨hr.1, hr.2.1⟩ ⟨hr.2.2.1, hr.2.2.2⟩ ⟨i1.1, i1.2.1⟩ ⟨i1.2.2.1, i1.2.2.2⟩
    obtain ⟨⟨f1, h3, b3⟩, f2, h4, b4⟩ := rot_near (c := rotc a) (s := rots a) (x := (v (k + 1)).1) (y := (v (k + 1)).2) ⟨hr.1, hr.2.1⟩ ⟨hr.2.2.1, hr.2.2.2⟩ ⟨i2.1, i2.2.1⟩ ⟨i2.2.2.1, i2.2.2.2⟩
    have st := step_err (by omega) ⟨i1.1, i1.2.1⟩ ⟨i1.2.2.1, i1.2.2.2⟩ ⟨i2.1, i2.2.1⟩ ⟨i2.2.2.1, i2.2.2.2⟩ h1 h2 h3 h4 b1 b2 b3 b4
    have e1 : cr (0, 0) (v k) (v (k + 1)) = (v k).1 * (v (k + 1)).2 - (v k).2 * (v (k + 1)).1 := by unfold cr; simp
    have e2 : cr (0, 0) (ro a (v k)) (ro a (v (k + 1))) = rotx (rotc a) (rots a) (v k).1 (v k).2 * roty (rotc a) (rots a) (v (k + 1)).1 (v (k + 1)).2 - roty (rotc a) (rots a) (v k).1 (v k).2 * rotx (rotc a) (rots a) (v (k + 1)).1 (v (k + 1)).2 := by unfold cr ro; simp
    unfold rim
    rw [e1, e2, Int.mul_add, Int.mul_add]
    clear h1 h2 h3 h4 b1 b2 b3 b4 hr hD i1 i2
    omega

theorem fan_area {ps : List Pt} (hin : ∀ p ∈ ps, inrP p) (h0 : 0 < ps.length) : ∀ k : Nat, 65536 * crsS ps k - 32768 * k ≤ fan (hp' ps) k
  | 0 => by unfold crsS fan; omega
  | k + 1 => by
    have ih := fan_area hin h0 k
    have i0 := hin _ (hp_mem (h := ps) 0 h0)
    have i1 := hin _ (hp_mem (h := ps) (k + 1) h0)
    have i2 := hin _ (hp_mem (h := ps) (k + 2) h0)
    unfold inrP at i0 i1 i2
    have p1 := mul_between (a := (hp' ps (k + 1)).1 - (hp' ps 0).1) (b := (hp' ps (k + 2)).2 - (hp' ps 0).2) (A := 2097152) (B := 2097152) (by omega) (by omega) (by omega) (by omega)
    have p2 := mul_between (a := (hp' ps (k + 1)).2 - (hp' ps 0).2) (b := (hp' ps (k + 2)).1 - (hp' ps 0).1) (A := 2097152) (B := 2097152) (by omega) (by omega) (by omega) (by omega)
    have hd : dt (hp' ps 0) (hp' ps (k + 1)) (hp' ps (k + 2)) = ((hp' ps (k + 1)).1 - (hp' ps 0).1) * ((hp' ps (k + 2)).2 - (hp' ps 0).2) - ((hp' ps (k + 1)).2 - (hp' ps 0).2) * ((hp' ps (k + 2)).1 - (hp' ps 0).1) := rfl
    have hc : crs ps (k + 1) = rdiv (dt (hp' ps 0) (hp' ps (k + 1)) (hp' ps (k + 2))) 65536 := rfl
    have d1 := rdiv_lo (q := 0) (n := dt (hp' ps 0) (hp' ps (k + 1)) (hp' ps (k + 2))) (d := 65536) (by omega) (by omega) (by omega) (by omega)
    unfold crsS fan
    rw [hc]
    omega

theorem fan_shift (a px py : Int) (v : Nat → Pt) (L : Nat → Pt) (hL : ∀ i, L i = ((ro a (v i)).1 + px, (ro a (v i)).2 + py)) : ∀ k, fan L k = fan (fun i => ro a (v i)) k
  | 0 => rfl
  | k + 1 => by
    unfold fan
    rw [fan_shift a px py v L hL k, hL, hL, hL]
    congr 1
    unfold dt
    grind

theorem not_flat {ps : List Pt} (hc : cvxP ps) (hA : 256 ≤ areaP ps) (a : Int) : fan (fun i => ro a (hp' ps i)) (ps.length - 2) ≠ 0 := by
  intro hz
  obtain ⟨n, hn⟩ : ∃ n, ps.length = n + 2 := ⟨ps.length - 2, by have := hc.1; omega⟩
  have h8 := hc.2.1
  have hin := hc.2.2.1
  have h0 : 0 < ps.length := by omega
  have hs : 511 ≤ crsS ps n := by
    unfold areaP at hA
    rw [if_pos (cvx_iff.2 hc), hn, Nat.add_sub_cancel] at hA
    have hin2 := fun (i : Nat) => hin _ (hp_mem (h := ps) i h0)
    have bd : ∀ k : Nat, -134217729 * (k : Int) ≤ crsS ps k ∧ crsS ps k ≤ 134217729 * (k : Int) := fun k => by
      induction k with
      | zero => unfold crsS; omega
      | succ k ih =>
        have i0 := hin2 0
        have i1 := hin2 (k + 1)
        have i2 := hin2 (k + 1 + 1)
        unfold inrP at i0 i1 i2
        have p1 := mul_between (a := (hp' ps (k + 1)).1 - (hp' ps 0).1) (b := (hp' ps (k + 1 + 1)).2 - (hp' ps 0).2) (A := 2097152) (B := 2097152) (by omega) (by omega) (by omega) (by omega)
        have p2 := mul_between (a := (hp' ps (k + 1)).2 - (hp' ps 0).2) (b := (hp' ps (k + 1 + 1)).1 - (hp' ps 0).1) (A := 2097152) (B := 2097152) (by omega) (by omega) (by omega) (by omega)
        unfold crsS crs
        generalize ((hp' ps (k + 1)).1 - (hp' ps 0).1) * ((hp' ps (k + 1 + 1)).2 - (hp' ps 0).2) = u at *
        generalize ((hp' ps (k + 1)).2 - (hp' ps 0).2) * ((hp' ps (k + 1 + 1)).1 - (hp' ps 0).1) = u' at *
        have d1 := rdiv_lo (q := 0) (n := u - u') (d := 65536) (by omega) (by omega) (by omega) (by omega)
        omega
    have hb := bd n
    have hn6 : (n : Int) ≤ 6 := by omega
    have d1 := rdiv_lo (q := 0) (n := crsS ps n) (d := 2) (by omega) (by omega) (by omega) (by omega)
    omega
  have hf := fan_area hin h0 n
  have e1 := fan_rim (0, 0) (hp' ps) n
  have e2 := fan_rim (0, 0) (fun i => ro a (hp' ps i)) n
  have hper : hp' ps (n + 2) = hp' ps 0 := by have := hp_add ps 0; rw [hn, Nat.zero_add] at this; exact this
  have r1 : rim (0, 0) (hp' ps) (n + 2) = fan (hp' ps) n := by
    rw [e1]; show rim (0, 0) (hp' ps) (n + 1) + cr (0, 0) (hp' ps (n + 1)) (hp' ps (n + 2)) = _; rw [hper]
  have r2 : rim (0, 0) (fun i => ro a (hp' ps i)) (n + 2) = fan (fun i => ro a (hp' ps i)) n := by
    rw [e2]; show rim (0, 0) (fun i => ro a (hp' ps i)) (n + 1) + cr (0, 0) (ro a (hp' ps (n + 1))) (ro a (hp' ps (n + 2))) = _; rw [hper]
  rw [hn, Nat.add_sub_cancel] at hz
  have err := (rim_err (a := a) (hp' ps) (fun i => hin _ (hp_mem i h0)) (n + 2)).1
  rw [r1, r2, hz] at err
  have hD := rot_unit_lo a
  have hS : (33292288 : Int) ≤ fan (hp' ps) n := by omega
  have hP : (4294443009 : Int) * 33292288 ≤ (rotc a * rotc a + rots a * rots a) * fan (hp' ps) n := Int.mul_le_mul (by omega) hS (by omega) (by omega)
  omega

end Go.Proofs.YtdmcdicphohlfaaGreat.Fx

set_option linter.unusedVariables false
namespace Go.Proofs.YtdmcdicphohlfaaGreat.Fx

theorem sub_in {a b : Int} (ha : -536870911 ≤ a ∧ a ≤ 536870911) (hb : -536870911 ≤ b ∧ b ≤ 536870911) (h : -536870911 ≤ a - b ∧ a - b ≤ 536870911) : sub a b = a - b := by
  unfold sub; rw [sat_id ha.1 ha.2, sat_id hb.1 hb.2, sat_id h.1 h.2]
theorem add_in {a b : Int} (ha : -536870911 ≤ a ∧ a ≤ 536870911) (hb : -536870911 ≤ b ∧ b ≤ 536870911) (h : -536870911 ≤ a + b ∧ a + b ≤ 536870911) : add a b = a + b := by
  unfold add; rw [sat_id ha.1 ha.2, sat_id hb.1 hb.2, sat_id h.1 h.2]

def nearP (p : Pt) : Prop := (-285212673 ≤ p.1 ∧ p.1 ≤ 285212673) ∧ -285212673 ≤ p.2 ∧ p.2 ≤ 285212673
def nearB (b : Bx) : Prop := (-285212673 ≤ b.x0 ∧ b.x1 ≤ 285212673) ∧ -285212673 ≤ b.y0 ∧ b.y1 ≤ 285212673
theorem near_fold : ∀ (ps : List Pt) (b : Bx), nearB b → (∀ p ∈ ps, nearP p) → nearB (ps.foldl Bx.step b)
  | [], b, h, _ => h
  | p :: ps, b, h, hp => by
    rw [List.foldl_cons]
    refine near_fold ps _ ?_ fun q hq => hp q (List.mem_cons_of_mem _ hq)
    have h1 := hp p (List.mem_cons_self ..)
    unfold nearP at h1
    unfold nearB at h ⊢
    unfold Bx.step
    rw [sat_id (x := p.1) (by omega) (by omega), sat_id (x := p.2) (by omega) (by omega)]
    dsimp only
    omega
theorem near_pts {ps : List Pt} (h0 : 0 < ps.length) (hp : ∀ p ∈ ps, nearP p) : nearB (Bx.pts ps) := by
  cases ps with
  | nil => simp at h0
  | cons p ps =>
    unfold Bx.pts
    refine near_fold ps _ ?_ fun q hq => hp q (List.mem_cons_of_mem _ hq)
    have h1 := hp p (List.mem_cons_self ..)
    unfold nearP at h1
    unfold nearB Bx.one
    rw [sat_id (x := p.1) (by omega) (by omega), sat_id (x := p.2) (by omega) (by omega)]
    dsimp only
    omega
theorem tr_near {px py a : Int} (hv : tval px py a = true) {p : Pt} (hp : inrP p) : nearP (tr px py a p) := ⟨(tr_in hv hp).1, (tr_in hv hp).2.1⟩
theorem pts_mem {ps : List Pt} {p : Pt} (hp : p ∈ ps) : (Bx.pts ps).x0 ≤ sat p.1 ∧ sat p.1 ≤ (Bx.pts ps).x1 ∧ (Bx.pts ps).y0 ≤ sat p.2 ∧ sat p.2 ≤ (Bx.pts ps).y1 := by
  obtain ⟨i, hi, rfl⟩ := List.mem_iff_getElem.1 hp
  exact (Bx.has_iff.1 (Bx.pts_has hi)).2

theorem mar_at {b : Bx} (hb : b.ok) (hn : nearB b) {R : Int} (h0 : 0 ≤ R) (h1 : R ≤ 524288) : b.mar R = ⟨b.x0 - R, b.y0 - R, b.x1 + R, b.y1 + R⟩ := by
  obtain ⟨o1, o2, _⟩ := hb
  unfold nearB at hn
  unfold Bx.mar
  rw [sub_in ⟨by omega, by omega⟩ ⟨by omega, by omega⟩ ⟨by omega, by omega⟩, sub_in ⟨by omega, by omega⟩ ⟨by omega, by omega⟩ ⟨by omega, by omega⟩, add_in ⟨by omega, by omega⟩ ⟨by omega, by omega⟩ ⟨by omega, by omega⟩, add_in ⟨by omega, by omega⟩ ⟨by omega, by omega⟩ ⟨by omega, by omega⟩]
/-! ### What contains a point -/
theorem abs_le_of_sq {u R : Int} (h : u * u < (R + 1) * (R + 1)) (hR : 0 ≤ R) : -R ≤ u ∧ u ≤ R := by
  constructor
  · by_cases h1 : -R ≤ u
    · exact h1
    have := Int.mul_le_mul (a := R + 1) (b := R + 1) (c := -u) (d := -u) (by omega) (by omega) (by omega) (by omega)
    rw [Int.neg_mul_neg] at this
    omega
  · by_cases h1 : u ≤ R
    · exact h1
    have := Int.mul_le_mul (a := R + 1) (b := R + 1) (c := u) (d := u) (by omega) (by omega) (by omega) (by omega)
    omega
theorem sub_sat_le {x c R : Int} (hR : R ≤ 524288) (h : -R ≤ sub x c ∧ sub x c ≤ R) : sat c - R ≤ sat x ∧ sat x ≤ sat c + R := by
  unfold sub at h
  have h1 : sat (sat x - sat c) = sat x - sat c := by
    generalize sat x - sat c = d at *
    unfold sat at h ⊢; split at h <;> (try split at h) <;> (try split) <;> (try split) <;> omega
  omega
theorem vlen_le {u v R : Int} (hR : 0 ≤ R) (h : vlen u v ≤ R) : (-R ≤ sat u ∧ sat u ≤ R) ∧ -R ≤ sat v ∧ sat v ≤ R := by
  obtain ⟨k0, _, _, k1⟩ := vlen_is u v
  have h2 : (vlen u v + 1) * (vlen u v + 1) ≤ (R + 1) * (R + 1) := Int.mul_le_mul (by omega) (by omega) (by omega) (by omega)
  have s1 := sq_nn (sat u)
  have s2 := sq_nn (sat v)
  exact ⟨abs_le_of_sq (by omega) hR, abs_le_of_sq (by omega) hR⟩
theorem circ_in {c : Pt} {R x y : Int} (h0 : 0 ≤ R) (h1 : R ≤ 524288) (h : vlen (sub x c.1) (sub y c.2) ≤ R) : (sat c.1 - R ≤ sat x ∧ sat x ≤ sat c.1 + R) ∧ sat c.2 - R ≤ sat y ∧ sat y ≤ sat c.2 + R := by
  obtain ⟨k1, k2⟩ := vlen_le h0 h
  rw [sub_sat] at k1 k2
  exact ⟨sub_sat_le h1 k1, sub_sat_le h1 k2⟩
theorem isq_sq {n R : Int} (h0 : 0 ≤ n) (h2 : n ≤ 4611686018427387904) (hR : 0 ≤ R) (h : isq n ≤ R) : n < (R + 1) * (R + 1) := by
  obtain ⟨k0, k1, k2⟩ := isq_is h0 h2
  have h2 : (isq n + 1) * (isq n + 1) ≤ (R + 1) * (R + 1) := Int.mul_le_mul (by omega) (by omega) (by omega) (by omega)
  omega
theorem caps_in {p q : Pt} {R x y : Int} (h0 : 0 ≤ R) (h1 : R ≤ 524288) (h : sdist x y x y p.1 p.2 q.1 q.2 ≤ R) : (min (sat p.1) (sat q.1) - R ≤ sat x ∧ sat x ≤ max (sat p.1) (sat q.1) + R) ∧ min (sat p.2) (sat q.2) - R ≤ sat y ∧ sat y ≤ max (sat p.2) (sat q.2) + R := by
  unfold sdist at h
  split at h
  · rename_i hi
    unfold isct at hi
    simp only [Bool.and_eq_true] at hi
    have := Bx.ovl_iff.1 hi.2
    unfold Bx.two at this
    dsimp only at this
    omega
  · have hb := best_in x y x y p.1 p.2 q.1 q.2
    generalize best x y x y p.1 p.2 q.1 q.2 = b at *
    obtain ⟨b1, b2⟩ := hb
    unfold inB at b1 b2
    unfold Pp.d at h
    have hd := dist2_in b.px b.py b.qx b.qy
    have hR' : isq (dist2 b.px b.py b.qx b.qy) ≤ R := by
      generalize isq (dist2 b.px b.py b.qx b.qy) = d at *
      unfold sat at h; split at h <;> (try split at h) <;> omega
    have hl := isq_sq hd.1 hd.2 h0 hR'
    unfold dist2 at hl
    have s1 := sq_nn (sat b.qx - sat b.px)
    have s2 := sq_nn (sat b.qy - sat b.py)
    have k1 := abs_le_of_sq (u := sat b.qx - sat b.px) (R := R) (by omega) h0
    have k2 := abs_le_of_sq (u := sat b.qy - sat b.py) (R := R) (by omega) h0
    omega

theorem cr_lin1 (v a b c : Pt) : (b.1 - v.1) * cr v a c = (a.1 - v.1) * cr v b c + (c.1 - v.1) * cr v a b := by unfold cr; grind
theorem cr_lin2 (v a b c : Pt) : (b.2 - v.2) * cr v a c = (a.2 - v.2) * cr v b c + (c.2 - v.2) * cr v a b := by unfold cr; grind

theorem pol_no {ps : List Pt} {px py a x y : Int} (hv : tval px py a = true) (hc : cvxP ps) (hA : 256 ≤ areaP ps) (hp : polin (ps.map (tr px py a)) x y = true)
    (h : Pt → Int) (hlin : ∀ a b c : Pt, h b * cr (sat x, sat y) a c = h a * cr (sat x, sat y) b c + h c * cr (sat x, sat y) a b) (hpos : ∀ p ∈ ps.map (tr px py a), 0 < h p) : False := by
  have h0 : 0 < ps.length := by have := hc.1; omega
  have hin := hc.2.2.1
  have hl0 : 0 < (ps.map (tr px py a)).length := by rw [List.length_map]; exact h0
  have hnear : ∀ i, nearP (hp' (ps.map (tr px py a)) i) := fun i => by
    rw [hp_map _ h0]; exact tr_near hv (hin _ (hp_mem i h0))
  have hk1 : ∀ i, i < (ps.map (tr px py a)).length → 0 ≤ cr (sat x, sat y) (hp' (ps.map (tr px py a)) i) (hp' (ps.map (tr px py a)) (i + 1)) := fun i hi => by
    have h1 := of_decide_eq_true hp i hi
    have n1 := hnear i
    have n2 := hnear (i + 1)
    unfold nearP at n1 n2
    unfold or3 orient det at h1
    rw [sat_id (x := (hp' (ps.map (tr px py a)) i).1) (by omega) (by omega), sat_id (x := (hp' (ps.map (tr px py a)) i).2) (by omega) (by omega), sat_id (x := (hp' (ps.map (tr px py a)) (i + 1)).1) (by omega) (by omega), sat_id (x := (hp' (ps.map (tr px py a)) (i + 1)).2) (by omega) (by omega)] at h1
    rw [← dt_cr]
    have h2 := mt sgn_neg_one.2 h1
    unfold dt
    dsimp only at h2 ⊢
    omega
  have hk : ∀ i, 0 ≤ cr (sat x, sat y) (hp' (ps.map (tr px py a)) i) (hp' (ps.map (tr px py a)) (i + 1)) := fun i => by
    have := hk1 (i % (ps.map (tr px py a)).length) (Nat.mod_lt _ hl0)
    rw [(hp_mod1 _ i).1, (hp_mod1 _ i).2] at this
    exact this
  have hz := walk_flat hl0 h hlin (fun i => hpos _ (hp_mem i hl0)) hk
  have hf : ∀ k, fan (hp' (ps.map (tr px py a))) k = 0 := fun k => by
    induction k with
    | zero => rfl
    | succ k ih => unfold fan; rw [ih, dt_crs (sat x, sat y), hz, hz, hz]; rfl
  refine not_flat hc hA a ?_
  rw [← fan_shift a px py (hp' ps) (hp' (ps.map (tr px py a))) (fun i => ?_)]
  · exact hf _
  · rw [hp_map _ h0]
    obtain ⟨_, _, e1, e2⟩ := tr_in hv (hin _ (hp_mem i h0))
    exact Prod.ext e1 e2
theorem pol_in {ps : List Pt} {px py a x y : Int} (hv : tval px py a = true) (hc : cvxP ps) (hA : 256 ≤ areaP ps) (hp : polin (ps.map (tr px py a)) x y = true) :
    ((Bx.pts (ps.map (tr px py a))).x0 ≤ sat x ∧ sat x ≤ (Bx.pts (ps.map (tr px py a))).x1) ∧ (Bx.pts (ps.map (tr px py a))).y0 ≤ sat y ∧ sat y ≤ (Bx.pts (ps.map (tr px py a))).y1 := by
  have hin := hc.2.2.1
  have hs : ∀ p ∈ ps.map (tr px py a), sat p.1 = p.1 ∧ sat p.2 = p.2 := fun p hpm => by
    obtain ⟨q, hq, rfl⟩ := List.mem_map.1 hpm
    have := tr_near hv (hin _ hq)
    unfold nearP at this
    exact ⟨sat_id (by omega) (by omega), sat_id (by omega) (by omega)⟩
  refine ⟨⟨?_, ?_⟩, ?_, ?_⟩
  · refine Classical.byContradiction fun hn => pol_no hv hc hA hp (fun p => p.1 - sat x) (fun a b c => cr_lin1 (sat x, sat y) a b c) fun p hpm => ?_
    have := pts_mem hpm; have := hs p hpm; show 0 < p.1 - sat x; omega
  · refine Classical.byContradiction fun hn => pol_no hv hc hA hp (fun p => -(p.1 - sat x)) (fun a b c => by have := cr_lin1 (sat x, sat y) a b c; dsimp only at this; simp only [Int.neg_mul]; omega) fun p hpm => ?_
    have := pts_mem hpm; have := hs p hpm; show 0 < -(p.1 - sat x); omega
  · refine Classical.byContradiction fun hn => pol_no hv hc hA hp (fun p => p.2 - sat y) (fun a b c => cr_lin2 (sat x, sat y) a b c) fun p hpm => ?_
    have := pts_mem hpm; have := hs p hpm; show 0 < p.2 - sat y; omega
  · refine Classical.byContradiction fun hn => pol_no hv hc hA hp (fun p => -(p.2 - sat y)) (fun a b c => by have := cr_lin2 (sat x, sat y) a b c; dsimp only at this; simp only [Int.neg_mul]; omega) fun p hpm => ?_
    have := pts_mem hpm; have := hs p hpm; show 0 < -(p.2 - sat y); omega

/-! ### The statements' facts -/
theorem len_two {ps : List Pt} (h : ps.length = 2) : ∃ p q, ps = [p, q] := by
  match ps, h with
  | [p, q], _ => exact ⟨p, q, rfl⟩
theorem bnd_facts {K R : Int} {ps : List Pt} {px py a : Int} (hv : tval px py a = true) (h : valS K R ps = 0) :
    bndS K R ps px py a = (Bx.pts (ps.map (tr px py a))).mar R ∧ (Bx.pts (ps.map (tr px py a))).ok ∧ nearB (Bx.pts (ps.map (tr px py a))) ∧ 0 ≤ R ∧ R ≤ 524288 := by
  have hl := val_len h
  have hr := val_rad h
  have hin := (valS_zero.1 h).2.2.1
  refine ⟨if_pos h, Bx.pts_ok (by rw [List.length_map]; omega), near_pts (by rw [List.length_map]; omega) (fun p hp => ?_), hr.1, hr.2.1⟩
  obtain ⟨q, hq, rfl⟩ := List.mem_map.1 hp
  exact tr_near hv (hin _ hq)
theorem bnd_val {K R : Int} {ps : List Pt} {px py a : Int} (hv : tval px py a = true) (h : valS K R ps = 0) : (bndS K R ps px py a).val = true := by
  obtain ⟨e, ok, nr, r0, r1⟩ := bnd_facts hv h
  rw [e]; exact Bx.val_iff.2 (Bx.mar_ok ok r0)
theorem con_in {K R : Int} {ps : List Pt} {px py a x y : Int} (hv : tval px py a = true) (h : conS K R ps px py a x y = true) : ((bndS K R ps px py a).exp 2).has x y = true := by
  unfold conS at h
  rw [Bool.and_eq_true, decide_eq_true_eq] at h
  obtain ⟨hz, h⟩ := h
  obtain ⟨e, ok, nr, r0, r1⟩ := bnd_facts hv hz
  obtain ⟨k13, _, hin, _, _, hpb⟩ := valS_zero.1 hz
  have hl := val_len hz
  have hr := val_rad hz
  have key : ((Bx.pts (ps.map (tr px py a))).x0 - R ≤ sat x ∧ sat x ≤ (Bx.pts (ps.map (tr px py a))).x1 + R) ∧ (Bx.pts (ps.map (tr px py a))).y0 - R ≤ sat y ∧ sat y ≤ (Bx.pts (ps.map (tr px py a))).y1 + R := by
    unfold conC at h
    split at h
    · rename_i hK
      obtain ⟨p, rfl⟩ := List.length_eq_one_iff.1 (hl.2.2.1 hK)
      exact circ_in (c := tr px py a p) r0 r1 (of_decide_eq_true h)
    · split at h
      · rename_i hK
        obtain ⟨p, q, rfl⟩ := len_two (hl.2.2.2.1 hK)
        exact caps_in (p := tr px py a p) (q := tr px py a q) r0 r1 (of_decide_eq_true h)
      · have hK : K = 3 := by omega
        unfold polbad at hpb
        simp only [hK, decide_true, Bool.true_and, Bool.or_eq_false_iff, Bool.not_eq_false', decide_eq_false_iff_not] at hpb
        have := pol_in hv (cvx_iff.1 hpb.1.1) (by omega) h
        omega
  have hk := Bx.mar_ok ok r0
  rw [e, Bx.exp_pos (Bx.val_iff.2 hk) (by omega)]
  have hm := Bx.mar_ok hk (m := 2) (by omega)
  rw [mar_at ok nr r0 r1] at hm ⊢
  unfold nearB at nr
  obtain ⟨o1, o2, _⟩ := ok
  refine Bx.has_iff.2 ⟨hm, ?_⟩
  unfold Bx.mar
  dsimp only
  rw [sub_in ⟨by omega, by omega⟩ ⟨by omega, by omega⟩ ⟨by omega, by omega⟩, sub_in ⟨by omega, by omega⟩ ⟨by omega, by omega⟩ ⟨by omega, by omega⟩, add_in ⟨by omega, by omega⟩ ⟨by omega, by omega⟩ ⟨by omega, by omega⟩, add_in ⟨by omega, by omega⟩ ⟨by omega, by omega⟩ ⟨by omega, by omega⟩]
  omega
end Go.Proofs.YtdmcdicphohlfaaGreat.Fx
