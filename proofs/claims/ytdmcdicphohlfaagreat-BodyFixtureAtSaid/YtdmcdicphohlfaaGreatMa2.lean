/- Plain mathematics: what the statements of chapter 5 say of the Lean functions of bounding boxes. No program is imported.
Plain mathematics of segments: the Lean functions that the contracts of package segment and of its reference speak of, and what the statements of chapter 10 say of them. No program is imported.
Plain mathematics of segments, continued: how far the computed closest point may be away; the statement of end points. No program is imported.
Plain mathematics of segments, continued: the closest points lie in the segments' boxes. -/
import Derived.Test.YtdmcdicphohlfaaGreatMa1

set_option linter.unusedVariables false
namespace Go.Proofs.YtdmcdicphohlfaaGreat.Fx

/-! ### Overlap -/
theorem Bx.ovl_iff {a b : Bx} : a.ovl b = true ↔ a.ok ∧ b.ok ∧ a.x0 ≤ b.x1 ∧ b.x0 ≤ a.x1 ∧ a.y0 ≤ b.y1 ∧ b.y0 ≤ a.y1 := by
  simp [Bx.ovl, Bx.val, and_assoc]
theorem Bx.con_iff {a b : Bx} : a.con b = true ↔ a.ok ∧ b.ok ∧ a.x0 ≤ b.x0 ∧ b.x1 ≤ a.x1 ∧ a.y0 ≤ b.y0 ∧ b.y1 ≤ a.y1 := by
  simp [Bx.con, Bx.val, and_assoc]
theorem Bx.has_iff {b : Bx} {x y : Int} : b.has x y = true ↔ b.ok ∧ b.x0 ≤ sat x ∧ sat x ≤ b.x1 ∧ b.y0 ≤ sat y ∧ sat y ≤ b.y1 := by
  simp [Bx.has, Bx.val, and_assoc]
theorem sat_max {a b : Int} (ha : a = sat a) (hb : b = sat b) : sat (max a b) = max a b := by
  rcases Int.le_total a b with h | h
  · rw [Int.max_eq_right h]; exact hb.symm
  · rw [Int.max_eq_left h]; exact ha.symm
theorem sat_min {a b : Int} (ha : a = sat a) (hb : b = sat b) : sat (min a b) = min a b := by
  rcases Int.le_total a b with h | h
  · rw [Int.min_eq_left h]; exact ha.symm
  · rw [Int.min_eq_right h]; exact hb.symm
/-! ### Unions -/
theorem Bx.uni_both {a b : Bx} (h1 : a.ok) (h2 : b.ok) : a.uni b = ⟨min a.x0 b.x0, min a.y0 b.y0, max a.x1 b.x1, max a.y1 b.y1⟩ := by
  simp [Bx.uni, Bx.val, h1, h2]
theorem Bx.uni_ok {a b : Bx} (h1 : a.ok) (h2 : b.ok) : (a.uni b).ok := by
  rw [Bx.uni_both h1 h2]
  obtain ⟨a1, a2, a3, a4, a5, a6⟩ := h1
  obtain ⟨b1, b2, b3, b4, b5, b6⟩ := h2
  exact ⟨by simp only; omega, by simp only; omega, (sat_min a3 b3).symm, (sat_min a4 b4).symm, (sat_max a5 b5).symm, (sat_max a6 b6).symm⟩
theorem Bx.con_self {a : Bx} (h : a.ok) : a.con a = true := Bx.con_iff.2 ⟨h, h, Int.le_refl _, Int.le_refl _, Int.le_refl _, Int.le_refl _⟩
theorem Bx.uni_con_l (a b : Bx) (h : a.val = true) : (a.uni b).con a = true := by
  have h1 := Bx.val_iff.1 h
  cases hb : b.val with
  | true =>
    have h2 := Bx.val_iff.1 hb
    refine Bx.con_iff.2 ⟨Bx.uni_ok h1 h2, h1, ?_⟩
    rw [Bx.uni_both h1 h2]; simp only; omega
  | false => rw [show a.uni b = a from by simp [Bx.uni, h, hb]]; exact Bx.con_self h1
theorem Bx.uni_con_r (a b : Bx) (h : b.val = true) : (a.uni b).con b = true := by
  have h2 := Bx.val_iff.1 h
  cases ha : a.val with
  | true =>
    have h1 := Bx.val_iff.1 ha
    refine Bx.con_iff.2 ⟨Bx.uni_ok h1 h2, h2, ?_⟩
    rw [Bx.uni_both h1 h2]; simp only; omega
  | false => rw [show a.uni b = b from by simp [Bx.uni, h, ha]]; exact Bx.con_self h2

/-! ### What is contained -/
theorem Bx.con_val {a b : Bx} (h : a.con b = true) : a.val = true ∧ b.val = true := ⟨Bx.val_iff.2 (Bx.con_iff.1 h).1, Bx.val_iff.2 (Bx.con_iff.1 h).2.1⟩
theorem Bx.con_con {a b c : Bx} (h : a.con b = true) (ho : b.con c = true) : a.con c = true := by
  obtain ⟨h1, h2, h3, h4, h5, h6⟩ := Bx.con_iff.1 h
  obtain ⟨_, o2, o3, o4, o5, o6⟩ := Bx.con_iff.1 ho
  exact Bx.con_iff.2 ⟨h1, o2, by omega, by omega, by omega, by omega⟩
/-! ### Boxes of points -/
theorem Bx.one_ok (p : Int × Int) : (Bx.one p).ok := ⟨Int.le_refl _, Int.le_refl _, (sat_sat _).symm, (sat_sat _).symm, (sat_sat _).symm, (sat_sat _).symm⟩
theorem Bx.step_uni {b : Bx} (h : b.ok) (p : Int × Int) : b.step p = b.uni (Bx.one p) := by rw [Bx.uni_both h (Bx.one_ok p)]; rfl
theorem Bx.step_ok {b : Bx} (h : b.ok) (p : Int × Int) : (b.step p).ok := by rw [Bx.step_uni h]; exact Bx.uni_ok h (Bx.one_ok p)
theorem Bx.uni_assoc {a b c : Bx} (h1 : a.ok) (h2 : b.ok) (h3 : c.ok) : (a.uni b).uni c = a.uni (b.uni c) := by
  rw [Bx.uni_both (Bx.uni_ok h1 h2) h3, Bx.uni_both h1 (Bx.uni_ok h2 h3), Bx.uni_both h1 h2, Bx.uni_both h2 h3]
  simp only [Bx.mk.injEq]; omega
theorem Bx.fold_ok : ∀ (ps : List (Int × Int)) (b : Bx), b.ok → (ps.foldl Bx.step b).ok
  | [], b, h => h
  | p :: ps, b, h => Bx.fold_ok ps _ (Bx.step_ok h p)
theorem Bx.pts_ok {ps : List (Int × Int)} (h : 0 < ps.length) : (Bx.pts ps).ok := by
  cases ps with
  | nil => simp at h
  | cons p ps => exact Bx.fold_ok ps _ (Bx.one_ok p)
theorem Bx.fold_uni : ∀ (ps : List (Int × Int)) (a b : Bx), a.ok → b.ok → ps.foldl Bx.step (a.uni b) = a.uni (ps.foldl Bx.step b)
  | [], a, b, _, _ => rfl
  | p :: ps, a, b, ha, hb => by
    simp only [List.foldl_cons]
    rw [Bx.step_uni (Bx.uni_ok ha hb), Bx.step_uni hb, Bx.uni_assoc ha hb (Bx.one_ok p), Bx.fold_uni ps a _ ha (Bx.uni_ok hb (Bx.one_ok p))]
theorem Bx.pts_append {ps qs : List (Int × Int)} (h1 : 0 < ps.length) (h2 : 0 < qs.length) : Bx.pts (ps ++ qs) = (Bx.pts ps).uni (Bx.pts qs) := by
  cases ps with
  | nil => simp at h1
  | cons p ps =>
    cases qs with
    | nil => simp at h2
    | cons q qs =>
      simp only [List.cons_append, Bx.pts, List.foldl_append, List.foldl_cons]
      rw [Bx.step_uni (Bx.fold_ok ps _ (Bx.one_ok p)), Bx.fold_uni qs _ _ (Bx.fold_ok ps _ (Bx.one_ok p)) (Bx.one_ok q)]
theorem Bx.fold_con : ∀ (ps : List (Int × Int)) (b : Bx), b.ok → (ps.foldl Bx.step b).con b = true
  | [], b, h => Bx.con_self h
  | p :: ps, b, h => Bx.con_con (Bx.fold_con ps _ (Bx.step_ok h p)) (by rw [Bx.step_uni h]; exact Bx.uni_con_l _ _ (Bx.val_iff.2 h))
theorem Bx.pts_has {ps : List (Int × Int)} {i : Nat} (h : i < ps.length) : (Bx.pts ps).has ps[i].1 ps[i].2 = true := by
  have key : (Bx.pts ps).con (Bx.one ps[i]) = true := by
    have e : ps = ps.take i ++ (ps[i] :: ps.drop (i + 1)) := by simp
    have hq : (Bx.pts (ps[i] :: ps.drop (i + 1))).con (Bx.one ps[i]) = true := Bx.fold_con _ _ (Bx.one_ok _)
    by_cases h0 : 0 < (ps.take i).length
    · have e2 : Bx.pts ps = (Bx.pts (ps.take i)).uni (Bx.pts (ps[i] :: ps.drop (i + 1))) := by
        rw [← Bx.pts_append h0 (by simp only [List.length_cons]; omega), ← e]
      rw [e2]
      exact Bx.con_con (Bx.uni_con_r _ _ (Bx.con_val hq).1) hq
    · have hi : i = 0 := by rw [List.length_take] at h0; omega
      subst hi
      have e3 : ps = ps[0] :: ps.drop 1 := by simpa using e
      rw [show Bx.pts ps = Bx.pts (ps[0] :: ps.drop 1) from by rw [← e3]]
      exact hq
  obtain ⟨k1, k2, k3, k4, k5, k6⟩ := Bx.con_iff.1 key
  exact Bx.has_iff.2 ⟨k1, k3, k4, k5, k6⟩

/-! ### Margins -/
theorem sub_le {a m : Int} (h : 0 ≤ m) : sub a m ≤ sat a := by
  unfold sub
  have h1 := sat_le a; have h2 := sat_ge a
  have h3 : 0 ≤ sat m := by unfold sat; split <;> (try split) <;> omega
  have : sat (sat a - sat m) ≤ sat a := by
    rcases Int.lt_or_le (sat a - sat m) (-536870911) with hl | hl
    · rw [sat_lo hl]; exact h2
    · rw [sat_id (x := sat a - sat m) (by omega) (by omega)]; omega
  exact this
theorem le_add {a m : Int} (h : 0 ≤ m) : sat a ≤ add a m := by
  unfold add
  have h1 := sat_le a; have h2 := sat_ge a
  have h3 : 0 ≤ sat m := by unfold sat; split <;> (try split) <;> omega
  rcases Int.lt_or_le 536870911 (sat a + sat m) with hl | hl
  · rw [sat_hi hl]; exact h1
  · rw [sat_id (x := sat a + sat m) (by omega) (by omega)]; omega
theorem sub_sat' (a b : Int) : sub a b = sat (sub a b) := by unfold sub; rw [sat_sat]
theorem add_sat' (a b : Int) : add a b = sat (add a b) := by unfold add; rw [sat_sat]
theorem sat_mono {a b : Int} (h : a ≤ b) : sat a ≤ sat b := by unfold sat; split <;> split <;> (try split) <;> (try split) <;> omega
theorem Bx.mar_ok {b : Bx} {m : Int} (hb : b.ok) (hm : 0 ≤ m) : (b.mar m).ok := by
  obtain ⟨b1, b2, b3, b4, b5, b6⟩ := hb
  have h1 := sub_le (a := b.x0) hm; have h2 := sub_le (a := b.y0) hm; have h3 := le_add (a := b.x1) hm; have h4 := le_add (a := b.y1) hm
  refine ⟨?_, ?_, sub_sat' .., sub_sat' .., add_sat' .., add_sat' ..⟩ <;> simp only [Bx.mar] <;> omega
theorem Bx.exp_pos {b : Bx} {m : Int} (h : b.val = true) (hm : 0 ≤ m) : b.exp m = b.mar m := by
  simp [Bx.exp, h, Bx.val_iff.2 (Bx.mar_ok (Bx.val_iff.1 h) hm)]
/-! ### Segments -/
theorem sgn_neg_one {n : Int} : sgn n = -1 ↔ n < 0 := by unfold sgn; split <;> (try split) <;> omega
end Go.Proofs.YtdmcdicphohlfaaGreat.Fx

set_option linter.unusedVariables false
namespace Go.Proofs.YtdmcdicphohlfaaGreat.Fx

theorem ratio_in (n d : Int) : 0 ≤ ratio n d ∧ ratio n d ≤ 65536 := by
  by_cases h0 : d < 1 ∨ 4611686018427387904 < d ∨ n < 1
  · rw [ratio_out h0]; omega
  by_cases h1 : d ≤ n
  · rw [ratio_one (by omega) (by omega) (by omega) h1]; omega
  by_cases h2 : d < 70368744177664
  · rw [ratio_low (by omega) (by omega) (by omega) h2, rdiv_in (by omega) (by omega) (by omega) (by omega)]
    have hr := rcore_near (n := n * 65536) (d := d) (by omega)
    generalize rcore (n * 65536) d = k at *
    constructor
    · false_or_by_contra
      have : k * d ≤ (-1) * d := Int.mul_le_mul_of_nonneg_right (by omega) (by omega)
      omega
    · false_or_by_contra
      have : 65537 * d ≤ k * d := Int.mul_le_mul_of_nonneg_right (by omega) (by omega)
      omega
  · rw [ratio_high (by omega) (by omega) (by omega) (by omega)]
    refine ⟨?_, by omega⟩
    by_cases h3 : 1 ≤ rdiv d 65536 ∧ rdiv d 65536 ≤ 4611686018427387904
    · rw [rdiv_in h3.1 h3.2 (by omega) (by omega)]
      generalize rdiv d 65536 = R at *
      have hr := rcore_near (n := n) (d := R) (by omega)
      generalize rcore n R = k at *
      have : 0 ≤ k := by
        false_or_by_contra
        have : k * R ≤ (-1) * R := Int.mul_le_mul_of_nonneg_right (by omega) (by omega)
        omega
      omega
    · rw [rdiv_out (by omega)]; omega
theorem lerp_at {a b t : Int} (h0 : 0 ≤ t) (h1 : t ≤ 65536) : ∃ r, lerp a b t = sat (sat a + r) ∧ -536870911 ≤ r ∧ r ≤ 536870911 ∧ 2 * (sub b a * t - r * 65536) ≤ 65536 ∧ 2 * (r * 65536 - sub b a * t) ≤ 65536 := by
  have g1 : sub b a ≤ 536870911 := sat_le _
  have g2 : -536870911 ≤ sub b a := sat_ge _
  obtain ⟨D, hD⟩ : ∃ D, sub b a = D := ⟨_, rfl⟩
  unfold lerp add
  rw [hD] at g1 g2 ⊢
  have hb := mul_between (a := D) (b := t) (A := 536870911) (B := 65536) (by omega) (by omega) (by omega) (by omega)
  have hm : mul D t = sat (rcore (D * t) 65536) := by
    unfold mul; rw [sat_id (x := D) (by omega) (by omega), sat_id (x := t) (by omega) (by omega), rdiv_in (by omega) (by omega) (by omega) (by omega)]
  have hr := rcore_near (n := D * t) (d := 65536) (by omega)
  have hi : -536870911 ≤ rcore (D * t) 65536 ∧ rcore (D * t) 65536 ≤ 536870911 := by omega
  refine ⟨rcore (D * t) 65536, ?_, hi.1, hi.2, hr.1, hr.2⟩
  rw [hm, sat_sat, sat_id (x := rcore (D * t) 65536) hi.1 hi.2]
theorem lerp_between {a b t : Int} (h0 : 0 ≤ t) (h1 : t ≤ 65536) : min (sat a) (sat b) ≤ lerp a b t ∧ lerp a b t ≤ max (sat a) (sat b) := by
  obtain ⟨r, hr, r0, r1, r2, r3⟩ := lerp_at (a := a) (b := b) h0 h1
  have a0 := sat_le a; have a1 := sat_ge a; have b0 := sat_le b; have b1 := sat_ge b
  rw [hr]
  have hs : sub b a = sat (sat b - sat a) := rfl
  by_cases hd : sat a ≤ sat b
  · have s0 : 0 ≤ sub b a := by rw [hs]; have := (sat_neg_iff (sat b - sat a)); omega
    have s1 : sub b a ≤ sat b - sat a := by rw [hs]; unfold sat at *; split <;> (try split) <;> omega
    have m0 : 0 ≤ sub b a * t := Int.mul_nonneg s0 h0
    have m1 : sub b a * t ≤ sub b a * 65536 := Int.mul_le_mul_of_nonneg_left h1 s0
    have : 0 ≤ r := by omega
    have : r ≤ sub b a := by omega
    rw [sat_id (x := sat a + r) (by omega) (by omega)]; omega
  · have s0 : sub b a ≤ 0 := by rw [hs]; have := (sat_pos_iff (sat b - sat a)); omega
    have s1 : sat b - sat a ≤ sub b a := by rw [hs]; unfold sat at *; split <;> (try split) <;> omega
    have m0 : sub b a * t ≤ 0 := Int.mul_nonpos_of_nonpos_of_nonneg s0 h0
    have m1 : sub b a * 65536 ≤ sub b a * t := Int.mul_le_mul_of_nonpos_left s0 h1
    have : r ≤ 0 := by omega
    have : sub b a ≤ r := by omega
    rw [sat_id (x := sat a + r) (by omega) (by omega)]; omega

def cpt (ax ay bx b_y px py : Int) : Int := ratio ((sat px - sat ax) * (sat bx - sat ax) + (sat py - sat ay) * (sat b_y - sat ay)) (dist2 ax ay bx b_y)
def cpc (t a b : Int) : Int := if t = 0 then sat a else if t = 65536 then sat b else lerp a b t
theorem cpt_in (ax ay bx b_y px py : Int) : 0 ≤ cpt ax ay bx b_y px py ∧ cpt ax ay bx b_y px py ≤ 65536 := ratio_in _ _
theorem cpc_zero (a b : Int) : cpc 0 a b = sat a := if_pos rfl
theorem cpc_one (a b : Int) : cpc 65536 a b = sat b := by unfold cpc; rw [if_neg (by decide), if_pos rfl]
theorem cpc_mid {t a b : Int} (h0 : t ≠ 0) (h1 : t ≠ 65536) : cpc t a b = lerp a b t := by unfold cpc; rw [if_neg h0, if_neg h1]
theorem cpc_between {t a b : Int} (h0 : 0 ≤ t) (h1 : t ≤ 65536) : min (sat a) (sat b) ≤ cpc t a b ∧ cpc t a b ≤ max (sat a) (sat b) := by
  unfold cpc; split
  · omega
  · split
    · omega
    · exact lerp_between h0 h1
theorem cpc_sat {t a b : Int} : sat (cpc t a b) = cpc t a b := by
  unfold cpc; split
  · exact sat_sat a
  · split
    · exact sat_sat b
    · exact lerp_sat a b t
theorem lerp_ss (a b t : Int) : lerp (sat a) (sat b) t = lerp a b t := by unfold lerp add sub; rw [sat_sat, sat_sat]
theorem dist2_ss (ax ay bx b_y : Int) : dist2 (sat ax) (sat ay) (sat bx) (sat b_y) = dist2 ax ay bx b_y := by unfold dist2; simp only [sat_sat]
theorem det_ss (ax ay bx b_y cx cy : Int) : det (sat ax) (sat ay) (sat bx) (sat b_y) (sat cx) (sat cy) = det ax ay bx b_y cx cy := by unfold det; simp only [sat_sat]
theorem orient_ss (ax ay bx b_y cx cy : Int) : orient (sat ax) (sat ay) (sat bx) (sat b_y) (sat cx) (sat cy) = orient ax ay bx b_y cx cy := by unfold orient; rw [det_ss]
theorem cpt_ss (ax ay bx b_y px py : Int) : cpt (sat ax) (sat ay) (sat bx) (sat b_y) (sat px) (sat py) = cpt ax ay bx b_y px py := by unfold cpt; rw [dist2_ss]; simp only [sat_sat]
theorem cpc_ss (t a b : Int) : cpc t (sat a) (sat b) = cpc t a b := by unfold cpc; simp only [sat_sat, lerp_ss]
def isct (ax ay bx b_y cx cy dx dy : Int) : Bool := decide (orient ax ay bx b_y cx cy * orient ax ay bx b_y dx dy ≤ 0) && decide (orient cx cy dx dy ax ay * orient cx cy dx dy bx b_y ≤ 0) && (Bx.two ax ay bx b_y).ovl (Bx.two cx cy dx dy)
theorem two_ss (ax ay bx b_y : Int) : Bx.two (sat ax) (sat ay) (sat bx) (sat b_y) = Bx.two ax ay bx b_y := by unfold Bx.two; simp only [sat_sat]
theorem isct_ss (ax ay bx b_y cx cy dx dy : Int) : isct (sat ax) (sat ay) (sat bx) (sat b_y) (sat cx) (sat cy) (sat dx) (sat dy) = isct ax ay bx b_y cx cy dx dy := by unfold isct; simp only [orient_ss, two_ss]
def absc (cx cy dx dy px py : Int) : Int := if det cx cy dx dy px py < 0 then -det cx cy dx dy px py else det cx cy dx dy px py
def sgt (ax ay bx b_y cx cy dx dy : Int) : Int := ratio (absc cx cy dx dy ax ay) (absc cx cy dx dy ax ay + absc cx cy dx dy bx b_y)
structure Pp where
  px : Int
  py : Int
  qx : Int
  qy : Int
  deriving DecidableEq, Inhabited
def Pp.d (p : Pp) : Int := dist2 p.px p.py p.qx p.qy
def Pp.pick (o n : Pp) : Pp := if n.d < o.d then n else o
def cand1 (ax ay bx b_y cx cy dx dy : Int) : Pp := ⟨sat ax, sat ay, cpc (cpt cx cy dx dy ax ay) cx dx, cpc (cpt cx cy dx dy ax ay) cy dy⟩
def cand2 (ax ay bx b_y cx cy dx dy : Int) : Pp := ⟨sat bx, sat b_y, cpc (cpt cx cy dx dy bx b_y) cx dx, cpc (cpt cx cy dx dy bx b_y) cy dy⟩
def cand3 (ax ay bx b_y cx cy dx dy : Int) : Pp := ⟨cpc (cpt ax ay bx b_y cx cy) ax bx, cpc (cpt ax ay bx b_y cx cy) ay b_y, sat cx, sat cy⟩
def cand4 (ax ay bx b_y cx cy dx dy : Int) : Pp := ⟨cpc (cpt ax ay bx b_y dx dy) ax bx, cpc (cpt ax ay bx b_y dx dy) ay b_y, sat dx, sat dy⟩
def best (ax ay bx b_y cx cy dx dy : Int) : Pp := (((cand1 ax ay bx b_y cx cy dx dy).pick (cand2 ax ay bx b_y cx cy dx dy)).pick (cand3 ax ay bx b_y cx cy dx dy)).pick (cand4 ax ay bx b_y cx cy dx dy)
def cps (ax ay bx b_y cx cy dx dy : Int) : Pp :=
  if isct ax ay bx b_y cx cy dx dy = true then ⟨lerp ax bx (sgt ax ay bx b_y cx cy dx dy), lerp ay b_y (sgt ax ay bx b_y cx cy dx dy), lerp ax bx (sgt ax ay bx b_y cx cy dx dy), lerp ay b_y (sgt ax ay bx b_y cx cy dx dy)⟩
  else best ax ay bx b_y cx cy dx dy
def sdist (ax ay bx b_y cx cy dx dy : Int) : Int := if isct ax ay bx b_y cx cy dx dy = true then 0 else sat (isq (best ax ay bx b_y cx cy dx dy).d)

theorem dist2_in (ax ay bx b_y : Int) : 0 ≤ dist2 ax ay bx b_y ∧ dist2 ax ay bx b_y ≤ 4611686018427387904 := by
  have h1 := @diffmul bx ax bx ax; have h2 := @diffmul b_y ay b_y ay; have h3 := sq_nn (sat bx - sat ax); have h4 := sq_nn (sat b_y - sat ay)
  have hb : ∀ p q : Int, (sat p - sat q) * (sat p - sat q) ≤ 1152921504606846976 := fun p q => by
    have a0 := sat_le p; have a1 := sat_ge p; have b0 := sat_le q; have b1 := sat_ge q
    have := mul_between (a := sat p - sat q) (b := sat p - sat q) (A := 1073741824) (B := 1073741824) (by omega) (by omega) (by omega) (by omega)
    omega
  have h5 := hb bx ax
  have h6 := hb b_y ay
  unfold dist2; omega
theorem sdist_isct {ax ay bx b_y cx cy dx dy : Int} (h : isct ax ay bx b_y cx cy dx dy = true) : sdist ax ay bx b_y cx cy dx dy = 0 := if_pos h
end Go.Proofs.YtdmcdicphohlfaaGreat.Fx

set_option linter.unusedVariables false
namespace Go.Proofs.YtdmcdicphohlfaaGreat.Fx

end Go.Proofs.YtdmcdicphohlfaaGreat.Fx

set_option linter.unusedVariables false
namespace Go.Proofs.YtdmcdicphohlfaaGreat.Fx

def inB (ax ay bx b_y x y : Int) : Prop := min (sat ax) (sat bx) ≤ sat x ∧ sat x ≤ max (sat ax) (sat bx) ∧ min (sat ay) (sat b_y) ≤ sat y ∧ sat y ≤ max (sat ay) (sat b_y)
theorem inB_a (ax ay bx b_y : Int) : inB ax ay bx b_y (sat ax) (sat ay) := by unfold inB; rw [sat_sat, sat_sat]; omega
theorem inB_b (ax ay bx b_y : Int) : inB ax ay bx b_y (sat bx) (sat b_y) := by unfold inB; rw [sat_sat, sat_sat]; omega
theorem inB_cpc {t ax ay bx b_y : Int} (h0 : 0 ≤ t) (h1 : t ≤ 65536) : inB ax ay bx b_y (cpc t ax bx) (cpc t ay b_y) := by
  unfold inB; rw [cpc_sat, cpc_sat]
  have h2 := cpc_between (a := ax) (b := bx) h0 h1
  have h3 := cpc_between (a := ay) (b := b_y) h0 h1
  exact ⟨h2.1, h2.2, h3.1, h3.2⟩
def Pp.In (p : Pp) (ax ay bx b_y cx cy dx dy : Int) : Prop := inB ax ay bx b_y p.px p.py ∧ inB cx cy dx dy p.qx p.qy
theorem Pp.In.pick {o n : Pp} {ax ay bx b_y cx cy dx dy : Int} (h : o.In ax ay bx b_y cx cy dx dy) (k : n.In ax ay bx b_y cx cy dx dy) : (o.pick n).In ax ay bx b_y cx cy dx dy := by unfold Pp.pick; split; exact k; exact h
theorem best_in (ax ay bx b_y cx cy dx dy : Int) : (best ax ay bx b_y cx cy dx dy).In ax ay bx b_y cx cy dx dy := by
  have g := cpt_in
  refine Pp.In.pick (Pp.In.pick (Pp.In.pick ?_ ?_) ?_) ?_
  · exact ⟨inB_a .., inB_cpc (g ..).1 (g ..).2⟩
  · exact ⟨inB_b .., inB_cpc (g ..).1 (g ..).2⟩
  · exact ⟨inB_cpc (g ..).1 (g ..).2, inB_a ..⟩
  · exact ⟨inB_cpc (g ..).1 (g ..).2, inB_b ..⟩
end Go.Proofs.YtdmcdicphohlfaaGreat.Fx
