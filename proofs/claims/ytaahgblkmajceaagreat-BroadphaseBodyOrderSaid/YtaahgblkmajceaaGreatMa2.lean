/- Plain mathematics: what the statements of chapter 5 say of the Lean functions of bounding boxes. No program is imported.
Plain mathematics of segments: the Lean functions that the contracts of package segment and of its reference speak of, and what the statements of chapter 10 say of them. No program is imported.
Plain mathematics of segments, continued: how far the computed closest point may be away; the statement of end points. No program is imported.
Plain mathematics of segments, continued: the closest points lie in the segments' boxes. -/
import Derived.Test.YtaahgblkmajceaaGreatMa1

set_option linter.unusedVariables false
namespace Go.Proofs.YtaahgblkmajceaaGreat.Fx

/-! ### Overlap -/
theorem Bx.ovl_iff {a b : Bx} : a.ovl b = true ↔ a.ok ∧ b.ok ∧ a.x0 ≤ b.x1 ∧ b.x0 ≤ a.x1 ∧ a.y0 ≤ b.y1 ∧ b.y0 ≤ a.y1 := by
  simp [Bx.ovl, Bx.val, and_assoc]
theorem Bx.con_iff {a b : Bx} : a.con b = true ↔ a.ok ∧ b.ok ∧ a.x0 ≤ b.x0 ∧ b.x1 ≤ a.x1 ∧ a.y0 ≤ b.y0 ∧ b.y1 ≤ a.y1 := by
  simp [Bx.con, Bx.val, and_assoc]
theorem Bx.has_iff {b : Bx} {x y : Int} : b.has x y = true ↔ b.ok ∧ b.x0 ≤ sat x ∧ sat x ≤ b.x1 ∧ b.y0 ≤ sat y ∧ sat y ≤ b.y1 := by
  simp [Bx.has, Bx.val, and_assoc]
theorem Bx.ovl_comm (a b : Bx) : a.ovl b = b.ovl a := by
  rw [Bool.eq_iff_iff, Bx.ovl_iff, Bx.ovl_iff]; constructor <;> (intro h; obtain ⟨h1, h2, h3, h4, h5, h6⟩ := h; exact ⟨h2, h1, h4, h3, h6, h5⟩)
theorem Bx.ovl_self (a : Bx) : a.ovl a = a.val := by
  rw [Bool.eq_iff_iff, Bx.ovl_iff, Bx.val_iff]
  constructor
  · exact fun h => h.1
  · intro h; have h' := h; obtain ⟨h1, h2, _⟩ := h'; exact ⟨h, h, h1, h1, h2, h2⟩
theorem sat_max {a b : Int} (ha : a = sat a) (hb : b = sat b) : sat (max a b) = max a b := by
  rcases Int.le_total a b with h | h
  · rw [Int.max_eq_right h]; exact hb.symm
  · rw [Int.max_eq_left h]; exact ha.symm
theorem sat_min {a b : Int} (ha : a = sat a) (hb : b = sat b) : sat (min a b) = min a b := by
  rcases Int.le_total a b with h | h
  · rw [Int.min_eq_left h]; exact ha.symm
  · rw [Int.min_eq_right h]; exact hb.symm
theorem Bx.ovl_point (a b : Bx) : a.ovl b = (a.val && b.val && a.has (max a.x0 b.x0) (max a.y0 b.y0) && b.has (max a.x0 b.x0) (max a.y0 b.y0)) := by
  rw [Bool.eq_iff_iff]
  simp only [Bool.and_eq_true, Bx.ovl_iff, Bx.has_iff, Bx.val_iff]
  constructor
  · rintro ⟨h1, h2, h3, h4, h5, h6⟩
    have p1 := h1; have p2 := h2
    obtain ⟨a1, a2, a3, a4, a5, a6⟩ := p1
    obtain ⟨b1, b2, b3, b4, b5, b6⟩ := p2
    rw [sat_max a3 b3, sat_max a4 b4]
    exact ⟨⟨⟨h1, h2⟩, h1, by omega, by omega, by omega, by omega⟩, h2, by omega, by omega, by omega, by omega⟩
  · rintro ⟨⟨⟨h1, h2⟩, _, g1, g2, g3, g4⟩, _, k1, k2, k3, k4⟩
    have p1 := h1; have p2 := h2
    obtain ⟨a1, a2, a3, a4, a5, a6⟩ := p1
    obtain ⟨b1, b2, b3, b4, b5, b6⟩ := p2
    rw [sat_max a3 b3] at g1 g2 k1 k2
    rw [sat_max a4 b4] at g3 g4 k3 k4
    exact ⟨h1, h2, by omega, by omega, by omega, by omega⟩

/-! ### Unions -/
theorem Bx.uni_both {a b : Bx} (h1 : a.ok) (h2 : b.ok) : a.uni b = ⟨min a.x0 b.x0, min a.y0 b.y0, max a.x1 b.x1, max a.y1 b.y1⟩ := by
  simp [Bx.uni, Bx.val, h1, h2]
theorem Bx.uni_ok {a b : Bx} (h1 : a.ok) (h2 : b.ok) : (a.uni b).ok := by
  rw [Bx.uni_both h1 h2]
  obtain ⟨a1, a2, a3, a4, a5, a6⟩ := h1
  obtain ⟨b1, b2, b3, b4, b5, b6⟩ := h2
  exact ⟨by simp only; omega, by simp only; omega, (sat_min a3 b3).symm, (sat_min a4 b4).symm, (sat_max a5 b5).symm, (sat_max a6 b6).symm⟩
theorem Bx.con_self {a : Bx} (h : a.ok) : a.con a = true := Bx.con_iff.2 ⟨h, h, Int.le_refl _, Int.le_refl _, Int.le_refl _, Int.le_refl _⟩
theorem Bx.uni_con_l (a b : Bx) (h : a.val = true) : (a.uni b).con a = true := by
  have h1 := Bx.val_iff.1 h
  cases hb : b.val with
  | true =>
    have h2 := Bx.val_iff.1 hb
    refine Bx.con_iff.2 ⟨Bx.uni_ok h1 h2, h1, ?_⟩
    rw [Bx.uni_both h1 h2]; simp only; omega
  | false => rw [show a.uni b = a from by simp [Bx.uni, h, hb]]; exact Bx.con_self h1
theorem Bx.uni_con_r (a b : Bx) (h : b.val = true) : (a.uni b).con b = true := by
  have h2 := Bx.val_iff.1 h
  cases ha : a.val with
  | true =>
    have h1 := Bx.val_iff.1 ha
    refine Bx.con_iff.2 ⟨Bx.uni_ok h1 h2, h2, ?_⟩
    rw [Bx.uni_both h1 h2]; simp only; omega
  | false => rw [show a.uni b = b from by simp [Bx.uni, h, ha]]; exact Bx.con_self h2

/-! ### What is contained -/
theorem Bx.con_val {a b : Bx} (h : a.con b = true) : a.val = true ∧ b.val = true := ⟨Bx.val_iff.2 (Bx.con_iff.1 h).1, Bx.val_iff.2 (Bx.con_iff.1 h).2.1⟩
theorem Bx.con_uni {a b : Bx} (h : a.con b = true) : a.uni b = a := by
  obtain ⟨h1, h2, h3, h4, h5, h6⟩ := Bx.con_iff.1 h
  rw [Bx.uni_both h1 h2]
  cases a; simp only [Bx.mk.injEq] at *; omega
theorem Bx.con_ovl {a b c : Bx} (h : a.con b = true) (ho : b.ovl c = true) : a.ovl c = true := by
  obtain ⟨h1, h2, h3, h4, h5, h6⟩ := Bx.con_iff.1 h
  obtain ⟨_, o2, o3, o4, o5, o6⟩ := Bx.ovl_iff.1 ho
  exact Bx.ovl_iff.2 ⟨h1, o2, by omega, by omega, by omega, by omega⟩
theorem Bx.con_con {a b c : Bx} (h : a.con b = true) (ho : b.con c = true) : a.con c = true := by
  obtain ⟨h1, h2, h3, h4, h5, h6⟩ := Bx.con_iff.1 h
  obtain ⟨_, o2, o3, o4, o5, o6⟩ := Bx.con_iff.1 ho
  exact Bx.con_iff.2 ⟨h1, o2, by omega, by omega, by omega, by omega⟩
theorem Bx.con_has {a b : Bx} {x y : Int} (h : a.con b = true) (ho : b.has x y = true) : a.has x y = true := by
  obtain ⟨h1, h2, h3, h4, h5, h6⟩ := Bx.con_iff.1 h
  obtain ⟨_, o3, o4, o5, o6⟩ := Bx.has_iff.1 ho
  exact Bx.has_iff.2 ⟨h1, by omega, by omega, by omega, by omega⟩

/-! ### Boxes of points -/
theorem Bx.one_ok (p : Int × Int) : (Bx.one p).ok := ⟨Int.le_refl _, Int.le_refl _, (sat_sat _).symm, (sat_sat _).symm, (sat_sat _).symm, (sat_sat _).symm⟩
theorem Bx.step_uni {b : Bx} (h : b.ok) (p : Int × Int) : b.step p = b.uni (Bx.one p) := by rw [Bx.uni_both h (Bx.one_ok p)]; rfl
theorem Bx.step_ok {b : Bx} (h : b.ok) (p : Int × Int) : (b.step p).ok := by rw [Bx.step_uni h]; exact Bx.uni_ok h (Bx.one_ok p)
theorem Bx.uni_assoc {a b c : Bx} (h1 : a.ok) (h2 : b.ok) (h3 : c.ok) : (a.uni b).uni c = a.uni (b.uni c) := by
  rw [Bx.uni_both (Bx.uni_ok h1 h2) h3, Bx.uni_both h1 (Bx.uni_ok h2 h3), Bx.uni_both h1 h2, Bx.uni_both h2 h3]
  simp only [Bx.mk.injEq]; omega
theorem Bx.fold_ok : ∀ (ps : List (Int × Int)) (b : Bx), b.ok → (ps.foldl Bx.step b).ok
  | [], b, h => h
  | p :: ps, b, h => Bx.fold_ok ps _ (Bx.step_ok h p)
theorem Bx.pts_ok {ps : List (Int × Int)} (h : 0 < ps.length) : (Bx.pts ps).ok := by
  cases ps with
  | nil => simp at h
  | cons p ps => exact Bx.fold_ok ps _ (Bx.one_ok p)
theorem Bx.fold_uni : ∀ (ps : List (Int × Int)) (a b : Bx), a.ok → b.ok → ps.foldl Bx.step (a.uni b) = a.uni (ps.foldl Bx.step b)
  | [], a, b, _, _ => rfl
  | p :: ps, a, b, ha, hb => by
    simp only [List.foldl_cons]
    rw [Bx.step_uni (Bx.uni_ok ha hb), Bx.step_uni hb, Bx.uni_assoc ha hb (Bx.one_ok p), Bx.fold_uni ps a _ ha (Bx.uni_ok hb (Bx.one_ok p))]
theorem Bx.pts_append {ps qs : List (Int × Int)} (h1 : 0 < ps.length) (h2 : 0 < qs.length) : Bx.pts (ps ++ qs) = (Bx.pts ps).uni (Bx.pts qs) := by
  cases ps with
  | nil => simp at h1
  | cons p ps =>
    cases qs with
    | nil => simp at h2
    | cons q qs =>
      simp only [List.cons_append, Bx.pts, List.foldl_append, List.foldl_cons]
      rw [Bx.step_uni (Bx.fold_ok ps _ (Bx.one_ok p)), Bx.fold_uni qs _ _ (Bx.fold_ok ps _ (Bx.one_ok p)) (Bx.one_ok q)]
theorem Bx.pts_split {ps : List (Int × Int)} {n : Nat} (h1 : 0 < (ps.take n).length) (h2 : 0 < (ps.drop n).length) : (Bx.pts (ps.take n)).uni (Bx.pts (ps.drop n)) = Bx.pts ps := by
  rw [← Bx.pts_append h1 h2, List.take_append_drop]
theorem Bx.fold_con : ∀ (ps : List (Int × Int)) (b : Bx), b.ok → (ps.foldl Bx.step b).con b = true
  | [], b, h => Bx.con_self h
  | p :: ps, b, h => Bx.con_con (Bx.fold_con ps _ (Bx.step_ok h p)) (by rw [Bx.step_uni h]; exact Bx.uni_con_l _ _ (Bx.val_iff.2 h))
theorem Bx.pts_has {ps : List (Int × Int)} {i : Nat} (h : i < ps.length) : (Bx.pts ps).has ps[i].1 ps[i].2 = true := by
  have key : (Bx.pts ps).con (Bx.one ps[i]) = true := by
    have e : ps = ps.take i ++ (ps[i] :: ps.drop (i + 1)) := by simp
    have hq : (Bx.pts (ps[i] :: ps.drop (i + 1))).con (Bx.one ps[i]) = true := Bx.fold_con _ _ (Bx.one_ok _)
    by_cases h0 : 0 < (ps.take i).length
    · have e2 : Bx.pts ps = (Bx.pts (ps.take i)).uni (Bx.pts (ps[i] :: ps.drop (i + 1))) := by
        rw [← Bx.pts_append h0 (by simp only [List.length_cons]; omega), ← e]
      rw [e2]
      exact Bx.con_con (Bx.uni_con_r _ _ (Bx.con_val hq).1) hq
    · have hi : i = 0 := by rw [List.length_take] at h0; omega
      subst hi
      have e3 : ps = ps[0] :: ps.drop 1 := by simpa using e
      rw [show Bx.pts ps = Bx.pts (ps[0] :: ps.drop 1) from by rw [← e3]]
      exact hq
  obtain ⟨k1, k2, k3, k4, k5, k6⟩ := Bx.con_iff.1 key
  exact Bx.has_iff.2 ⟨k1, k3, k4, k5, k6⟩

/-! ### Margins -/
theorem sub_le {a m : Int} (h : 0 ≤ m) : sub a m ≤ sat a := by
  unfold sub
  have h1 := sat_le a; have h2 := sat_ge a
  have h3 : 0 ≤ sat m := by unfold sat; split <;> (try split) <;> omega
  have : sat (sat a - sat m) ≤ sat a := by
    rcases Int.lt_or_le (sat a - sat m) (-536870911) with hl | hl
    · rw [sat_lo hl]; exact h2
    · rw [sat_id (x := sat a - sat m) (by omega) (by omega)]; omega
  exact this
theorem le_add {a m : Int} (h : 0 ≤ m) : sat a ≤ add a m := by
  unfold add
  have h1 := sat_le a; have h2 := sat_ge a
  have h3 : 0 ≤ sat m := by unfold sat; split <;> (try split) <;> omega
  rcases Int.lt_or_le 536870911 (sat a + sat m) with hl | hl
  · rw [sat_hi hl]; exact h1
  · rw [sat_id (x := sat a + sat m) (by omega) (by omega)]; omega
theorem le_sub {a m : Int} (h : m ≤ 0) : sat a ≤ sub a m := by
  unfold sub
  have h1 := sat_le a; have h2 := sat_ge a
  have h3 : sat m ≤ 0 := by unfold sat; split <;> (try split) <;> omega
  rcases Int.lt_or_le 536870911 (sat a - sat m) with hl | hl
  · rw [sat_hi hl]; exact h1
  · rw [sat_id (x := sat a - sat m) (by omega) (by omega)]; omega
theorem add_le {a m : Int} (h : m ≤ 0) : add a m ≤ sat a := by
  unfold add
  have h1 := sat_le a; have h2 := sat_ge a
  have h3 : sat m ≤ 0 := by unfold sat; split <;> (try split) <;> omega
  rcases Int.lt_or_le (sat a + sat m) (-536870911) with hl | hl
  · rw [sat_lo hl]; exact h2
  · rw [sat_id (x := sat a + sat m) (by omega) (by omega)]; omega
theorem sub_sat' (a b : Int) : sub a b = sat (sub a b) := by unfold sub; rw [sat_sat]
theorem add_sat' (a b : Int) : add a b = sat (add a b) := by unfold add; rw [sat_sat]
theorem sat_mono {a b : Int} (h : a ≤ b) : sat a ≤ sat b := by unfold sat; split <;> split <;> (try split) <;> (try split) <;> omega
theorem Bx.mar_ok {b : Bx} {m : Int} (hb : b.ok) (hm : 0 ≤ m) : (b.mar m).ok := by
  obtain ⟨b1, b2, b3, b4, b5, b6⟩ := hb
  have h1 := sub_le (a := b.x0) hm; have h2 := sub_le (a := b.y0) hm; have h3 := le_add (a := b.x1) hm; have h4 := le_add (a := b.y1) hm
  refine ⟨?_, ?_, sub_sat' .., sub_sat' .., add_sat' .., add_sat' ..⟩ <;> simp only [Bx.mar] <;> omega
theorem Bx.exp_not {b : Bx} {m : Int} (h : b.val = false) : b.exp m = Bx.zero := by simp [Bx.exp, h]
theorem Bx.exp_pos {b : Bx} {m : Int} (h : b.val = true) (hm : 0 ≤ m) : b.exp m = b.mar m := by
  simp [Bx.exp, h, Bx.val_iff.2 (Bx.mar_ok (Bx.val_iff.1 h) hm)]
theorem Bx.exp_con {b : Bx} {m : Int} (h : b.val = true) (hm : 0 ≤ m) : (b.exp m).con b = true := by
  rw [Bx.exp_pos h hm]
  have hb := Bx.val_iff.1 h
  refine Bx.con_iff.2 ⟨Bx.mar_ok hb hm, hb, ?_⟩
  obtain ⟨b1, b2, b3, b4, b5, b6⟩ := hb
  have h1 := sub_le (a := b.x0) hm; have h2 := sub_le (a := b.y0) hm; have h3 := le_add (a := b.x1) hm; have h4 := le_add (a := b.y1) hm
  simp only [Bx.mar]; omega
theorem Bx.con_hp {a b : Bx} (h : a.con b = true) : b.hp ≤ a.hp := by
  obtain ⟨h1, h2, h3, h4, h5, h6⟩ := Bx.con_iff.1 h
  have va := Bx.val_iff.2 h1; have vb := Bx.val_iff.2 h2
  simp only [Bx.hp, va, vb, if_true]
  obtain ⟨a1, a2, a3, a4, a5, a6⟩ := h1
  obtain ⟨b1, b2, b3, b4, b5, b6⟩ := h2
  unfold add sub
  simp only [sat_sat]
  rw [← a3, ← a4, ← a5, ← a6, ← b3, ← b4, ← b5, ← b6]
  have m1 := sat_mono (a := b.x1 - b.x0) (b := a.x1 - a.x0) (by omega)
  have m2 := sat_mono (a := b.y1 - b.y0) (b := a.y1 - a.y0) (by omega)
  exact sat_mono (by omega)
/-- A negative margin: the zero box, or a box inside. -/
theorem Bx.exp_neg {b : Bx} {m : Int} (h : b.val = true) (hm : m < 0) : b.exp m = Bx.zero ∨ b.con (b.exp m) = true := by
  by_cases hv : (b.mar m).val = true
  · right
    rw [show b.exp m = b.mar m from by simp [Bx.exp, h, hv]]
    have hb := Bx.val_iff.1 h
    refine Bx.con_iff.2 ⟨hb, Bx.val_iff.1 hv, ?_⟩
    obtain ⟨b1, b2, b3, b4, b5, b6⟩ := hb
    have h1 := le_sub (a := b.x0) (m := m) (by omega); have h2 := le_sub (a := b.y0) (m := m) (by omega); have h3 := add_le (a := b.x1) (m := m) (by omega); have h4 := add_le (a := b.y1) (m := m) (by omega)
    simp only [Bx.mar]; omega
  · left; simp [Bx.exp, hv]

theorem Bx.not_zero {b : Bx} (h : ¬ b = Bx.zero) : (b.x0 == 0) = false ∨ ((b.x0 == 0) = true ∧ (b.y0 == 0) = false) ∨ ((b.x0 == 0) = true ∧ (b.y0 == 0) = true ∧ (b.x1 == 0) = false) ∨ ((b.x0 == 0) = true ∧ (b.y0 == 0) = true ∧ (b.x1 == 0) = true ∧ (b.y1 == 0) = false) := by
  simp only [beq_iff_eq, beq_eq_false_iff_ne, ne_eq]
  by_cases h0 : b.x0 = 0
  · by_cases h1 : b.y0 = 0
    · by_cases h2 : b.x1 = 0
      · by_cases h3 : b.y1 = 0
        · exact absurd (by cases b; simp only at *; subst h0 h1 h2 h3; rfl) h
        · exact .inr (.inr (.inr ⟨h0, h1, h2, h3⟩))
      · exact .inr (.inr (.inl ⟨h0, h1, h2⟩))
    · exact .inr (.inl ⟨h0, h1⟩)
  · exact .inl h0

/-! ### Segments -/
theorem lin_low {A y0 y1 y : Int} (h0 : y0 ≤ y) (h1 : y ≤ y1) : A * y0 ≤ A * y ∨ A * y1 ≤ A * y := by
  rcases Int.le_total 0 A with h | h
  · exact .inl (Int.mul_le_mul_of_nonneg_left h0 h)
  · exact .inr (Int.mul_le_mul_of_nonpos_left h h1)
theorem sgn_one {n : Int} : sgn n = 1 ↔ 0 < n := by unfold sgn; split <;> (try split) <;> omega
theorem sgn_neg_one {n : Int} : sgn n = -1 ↔ n < 0 := by unfold sgn; split <;> (try split) <;> omega
theorem Bx.count_all (b : Bx) (fx fy tx ty s : Int) : b.count fx fy tx ty s 4 < 4 ↔ ¬ ∀ k, k < 4 → b.side fx fy tx ty k = s := by
  constructor
  · intro h hall
    have h0 := hall 0 (by omega); have h1 := hall 1 (by omega); have h2 := hall 2 (by omega); have h3 := hall 3 (by omega)
    simp only [Bx.count, h0, h1, h2, h3, if_true] at h
    omega
  · intro h
    by_cases h0 : b.side fx fy tx ty 0 = s <;> by_cases h1 : b.side fx fy tx ty 1 = s <;> by_cases h2 : b.side fx fy tx ty 2 = s <;> by_cases h3 : b.side fx fy tx ty 3 = s
    · exfalso; apply h; intro k hk
      match k, hk with
      | 0, _ => exact h0
      | 1, _ => exact h1
      | 2, _ => exact h2
      | 3, _ => exact h3
      | n + 4, h => omega
    all_goals (simp only [Bx.count, h0, h1, h2, h3, if_true, if_false]; omega)
theorem Bx.seg_iff {b : Bx} {fx fy tx ty : Int} : b.seg fx fy tx ty = true ↔ b.ovl (Bx.two fx fy tx ty) = true ∧ (¬ ∀ k, k < 4 → b.side fx fy tx ty k = 1) ∧ ¬ ∀ k, k < 4 → b.side fx fy tx ty k = -1 := by
  unfold Bx.seg
  rw [Bool.and_eq_true, Bool.and_eq_true, decide_eq_true_eq, decide_eq_true_eq, Bx.count_all, Bx.count_all, and_assoc]
/-- Strictly to the left with all its corners, a box is to the left with all its points. -/
theorem Bx.left_all {b : Bx} {fx fy tx ty px py : Int} (hb : b.ok) (h : ∀ k, k < 4 → b.side fx fy tx ty k = 1) (hx0 : b.x0 ≤ sat px) (hx1 : sat px ≤ b.x1) (hy0 : b.y0 ≤ sat py) (hy1 : sat py ≤ b.y1) : 0 < det fx fy tx ty px py := by
  obtain ⟨_, _, s3, s4, s5, s6⟩ := hb
  have h0 := sgn_one.1 (h 0 (by omega)); have h1 := sgn_one.1 (h 1 (by omega)); have h2 := sgn_one.1 (h 2 (by omega)); have h3 := sgn_one.1 (h 3 (by omega))
  simp only [Bx.cx, Bx.cy, det] at h0 h1 h2 h3
  simp only [show ¬ ((0 : Nat) = 1 ∨ (0 : Nat) = 2) from by omega, show ¬ ((0 : Nat) = 2 ∨ (0 : Nat) = 3) from by omega, show ¬ ((1 : Nat) = 2 ∨ (1 : Nat) = 3) from by omega, show ¬ ((3 : Nat) = 1 ∨ (3 : Nat) = 2) from by omega, if_false, true_or, or_true, if_true] at h0 h1 h2 h3
  rw [← s3, ← s4] at h0
  rw [← s5, ← s4] at h1
  rw [← s5, ← s6] at h2
  rw [← s3, ← s6] at h3
  unfold det
  generalize sat tx - sat fx = A at *
  generalize sat ty - sat fy = B at *
  have e : ∀ u v : Int, A * (v - sat fy) - B * (u - sat fx) = A * v + -B * u + (B * sat fx - A * sat fy) := fun u v => by grind
  rw [e] at h0 h1 h2 h3 ⊢
  rcases lin_low (A := A) hy0 hy1 with ha | ha <;> rcases lin_low (A := -B) hx0 hx1 with hc | hc <;> omega
theorem side_swap (b : Bx) (fx fy tx ty : Int) (k : Nat) : b.side tx ty fx fy k = -b.side fx fy tx ty k := or_bac ..
theorem Bx.right_all {b : Bx} {fx fy tx ty px py : Int} (hb : b.ok) (h : ∀ k, k < 4 → b.side fx fy tx ty k = -1) (hx0 : b.x0 ≤ sat px) (hx1 : sat px ≤ b.x1) (hy0 : b.y0 ≤ sat py) (hy1 : sat py ≤ b.y1) : det fx fy tx ty px py < 0 := by
  have h' : ∀ k, k < 4 → b.side tx ty fx fy k = 1 := fun k hk => by rw [side_swap, h k hk]; rfl
  have := Bx.left_all hb h' hx0 hx1 hy0 hy1
  have e : det tx ty fx fy px py = -det fx fy tx ty px py := by unfold det; grind
  omega
theorem Bx.corner_in {a b : Bx} (h : a.con b = true) (k : Nat) : (a.x0 ≤ sat (b.cx k) ∧ sat (b.cx k) ≤ a.x1) ∧ a.y0 ≤ sat (b.cy k) ∧ sat (b.cy k) ≤ a.y1 := by
  obtain ⟨_, ⟨b1, b2, b3, b4, b5, b6⟩, h3, h4, h5, h6⟩ := Bx.con_iff.1 h
  unfold Bx.cx Bx.cy
  constructor
  · split
    · rw [← b5]; omega
    · rw [← b3]; omega
  · split
    · rw [← b6]; omega
    · rw [← b4]; omega
theorem Bx.con_seg {a b : Bx} {fx fy tx ty : Int} (h : a.con b = true) (hs : b.seg fx fy tx ty = true) : a.seg fx fy tx ty = true := by
  obtain ⟨h1, h2, h3⟩ := Bx.seg_iff.1 hs
  have ha := (Bx.con_iff.1 h).1
  refine Bx.seg_iff.2 ⟨Bx.con_ovl h h1, fun hall => h2 fun k hk => ?_, fun hall => h3 fun k hk => ?_⟩
  · obtain ⟨⟨p1, p2⟩, p3, p4⟩ := Bx.corner_in h k
    exact sgn_one.2 (Bx.left_all ha hall p1 p2 p3 p4)
  · obtain ⟨⟨p1, p2⟩, p3, p4⟩ := Bx.corner_in h k
    exact sgn_neg_one.2 (Bx.right_all ha hall p1 p2 p3 p4)
theorem two_swap (fx fy tx ty : Int) : Bx.two tx ty fx fy = Bx.two fx fy tx ty := by unfold Bx.two; simp only [Bx.mk.injEq]; omega
theorem Bx.seg_swap (b : Bx) (fx fy tx ty : Int) : b.seg tx ty fx fy = b.seg fx fy tx ty := by
  rw [Bool.eq_iff_iff, Bx.seg_iff, Bx.seg_iff, two_swap]
  have e1 : (∀ k, k < 4 → b.side tx ty fx fy k = 1) ↔ ∀ k, k < 4 → b.side fx fy tx ty k = -1 := by
    constructor <;> intro h k hk <;> (have h1 := h k hk; have h2 := side_swap b fx fy tx ty k; omega)
  have e2 : (∀ k, k < 4 → b.side tx ty fx fy k = -1) ↔ ∀ k, k < 4 → b.side fx fy tx ty k = 1 := by
    constructor <;> intro h k hk <;> (have h1 := h k hk; have h2 := side_swap b fx fy tx ty k; omega)
  rw [e1, e2]
  constructor <;> (rintro ⟨x1, x2, x3⟩; exact ⟨x1, x3, x2⟩)
theorem two_ok (fx fy tx ty : Int) : (Bx.two fx fy tx ty).ok :=
  ⟨by simp only [Bx.two]; omega, by simp only [Bx.two]; omega, (sat_min (sat_sat _).symm (sat_sat _).symm).symm, (sat_min (sat_sat _).symm (sat_sat _).symm).symm, (sat_max (sat_sat _).symm (sat_sat _).symm).symm, (sat_max (sat_sat _).symm (sat_sat _).symm).symm⟩
theorem det_from (fx fy tx ty : Int) : det fx fy tx ty fx fy = 0 := by unfold det; grind
theorem Bx.seg_from {b : Bx} {fx fy : Int} (tx ty : Int) (h : b.has fx fy = true) : b.seg fx fy tx ty = true := by
  obtain ⟨h1, h2, h3, h4, h5⟩ := Bx.has_iff.1 h
  refine Bx.seg_iff.2 ⟨Bx.ovl_iff.2 ⟨h1, two_ok .., ?_⟩, fun hall => ?_, fun hall => ?_⟩
  · simp only [Bx.two]; omega
  · have := Bx.left_all h1 hall h2 h3 h4 h5; rw [det_from] at this; omega
  · have := Bx.right_all h1 hall h2 h3 h4 h5; rw [det_from] at this; omega
theorem Bx.seg_to {b : Bx} {tx ty : Int} (fx fy : Int) (h : b.has tx ty = true) : b.seg fx fy tx ty = true := by rw [← Bx.seg_swap]; exact Bx.seg_from fx fy h
theorem Bx.seg_point (b : Bx) (fx fy : Int) : b.seg fx fy fx fy = b.has fx fy := by
  rw [Bool.eq_iff_iff]
  constructor
  · intro h
    obtain ⟨h1, _⟩ := Bx.seg_iff.1 h
    obtain ⟨o1, _, o3, o4, o5, o6⟩ := Bx.ovl_iff.1 h1
    simp only [Bx.two] at o3 o4 o5 o6
    exact Bx.has_iff.2 ⟨o1, by omega, by omega, by omega, by omega⟩
  · exact Bx.seg_from fx fy
theorem Bx.seg_ends {b : Bx} {fx fy tx ty : Int} (h : b.seg fx fy tx ty = false) : b.has fx fy = false ∧ b.has tx ty = false := by
  constructor
  · cases hh : b.has fx fy with
    | false => rfl
    | true => rw [Bx.seg_from tx ty hh] at h; cases h
  · cases hh : b.has tx ty with
    | false => rfl
    | true => rw [Bx.seg_to fx fy hh] at h; cases h

end Go.Proofs.YtaahgblkmajceaaGreat.Fx

set_option linter.unusedVariables false
namespace Go.Proofs.YtaahgblkmajceaaGreat.Fx

theorem ratio_in (n d : Int) : 0 ≤ ratio n d ∧ ratio n d ≤ 65536 := by
  by_cases h0 : d < 1 ∨ 4611686018427387904 < d ∨ n < 1
  · rw [ratio_out h0]; omega
  by_cases h1 : d ≤ n
  · rw [ratio_one (by omega) (by omega) (by omega) h1]; omega
  by_cases h2 : d < 70368744177664
  · rw [ratio_low (by omega) (by omega) (by omega) h2, rdiv_in (by omega) (by omega) (by omega) (by omega)]
    have hr := rcore_near (n := n * 65536) (d := d) (by omega)
    generalize rcore (n * 65536) d = k at *
    constructor
    · false_or_by_contra
      have : k * d ≤ (-1) * d := Int.mul_le_mul_of_nonneg_right (by omega) (by omega)
      omega
    · false_or_by_contra
      have : 65537 * d ≤ k * d := Int.mul_le_mul_of_nonneg_right (by omega) (by omega)
      omega
  · rw [ratio_high (by omega) (by omega) (by omega) (by omega)]
    refine ⟨?_, by omega⟩
    by_cases h3 : 1 ≤ rdiv d 65536 ∧ rdiv d 65536 ≤ 4611686018427387904
    · rw [rdiv_in h3.1 h3.2 (by omega) (by omega)]
      generalize rdiv d 65536 = R at *
      have hr := rcore_near (n := n) (d := R) (by omega)
      generalize rcore n R = k at *
      have : 0 ≤ k := by
        false_or_by_contra
        have : k * R ≤ (-1) * R := Int.mul_le_mul_of_nonneg_right (by omega) (by omega)
        omega
      omega
    · rw [rdiv_out (by omega)]; omega
theorem lerp_at {a b t : Int} (h0 : 0 ≤ t) (h1 : t ≤ 65536) : ∃ r, lerp a b t = sat (sat a + r) ∧ -536870911 ≤ r ∧ r ≤ 536870911 ∧ 2 * (sub b a * t - r * 65536) ≤ 65536 ∧ 2 * (r * 65536 - sub b a * t) ≤ 65536 := by
  have g1 : sub b a ≤ 536870911 := sat_le _
  have g2 : -536870911 ≤ sub b a := sat_ge _
  obtain ⟨D, hD⟩ : ∃ D, sub b a = D := ⟨_, rfl⟩
  unfold lerp add
  rw [hD] at g1 g2 ⊢
  have hb := mul_between (a := D) (b := t) (A := 536870911) (B := 65536) (by omega) (by omega) (by omega) (by omega)
  have hm : mul D t = sat (rcore (D * t) 65536) := by
    unfold mul; rw [sat_id (x := D) (by omega) (by omega), sat_id (x := t) (by omega) (by omega), rdiv_in (by omega) (by omega) (by omega) (by omega)]
  have hr := rcore_near (n := D * t) (d := 65536) (by omega)
  have hi : -536870911 ≤ rcore (D * t) 65536 ∧ rcore (D * t) 65536 ≤ 536870911 := by omega
  refine ⟨rcore (D * t) 65536, ?_, hi.1, hi.2, hr.1, hr.2⟩
  rw [hm, sat_sat, sat_id (x := rcore (D * t) 65536) hi.1 hi.2]
/-- An interpolated number lies between the two. -/
theorem lerp_between {a b t : Int} (h0 : 0 ≤ t) (h1 : t ≤ 65536) : min (sat a) (sat b) ≤ lerp a b t ∧ lerp a b t ≤ max (sat a) (sat b) := by
  obtain ⟨r, hr, r0, r1, r2, r3⟩ := lerp_at (a := a) (b := b) h0 h1
  have a0 := sat_le a; have a1 := sat_ge a; have b0 := sat_le b; have b1 := sat_ge b
  rw [hr]
  have hs : sub b a = sat (sat b - sat a) := rfl
  by_cases hd : sat a ≤ sat b
  · have s0 : 0 ≤ sub b a := by rw [hs]; have := (sat_neg_iff (sat b - sat a)); omega
    have s1 : sub b a ≤ sat b - sat a := by rw [hs]; unfold sat at *; split <;> (try split) <;> omega
    have m0 : 0 ≤ sub b a * t := Int.mul_nonneg s0 h0
    have m1 : sub b a * t ≤ sub b a * 65536 := Int.mul_le_mul_of_nonneg_left h1 s0
    have : 0 ≤ r := by omega
    have : r ≤ sub b a := by omega
    rw [sat_id (x := sat a + r) (by omega) (by omega)]; omega
  · have s0 : sub b a ≤ 0 := by rw [hs]; have := (sat_pos_iff (sat b - sat a)); omega
    have s1 : sat b - sat a ≤ sub b a := by rw [hs]; unfold sat at *; split <;> (try split) <;> omega
    have m0 : sub b a * t ≤ 0 := Int.mul_nonpos_of_nonpos_of_nonneg s0 h0
    have m1 : sub b a * 65536 ≤ sub b a * t := Int.mul_le_mul_of_nonpos_left s0 h1
    have : r ≤ 0 := by omega
    have : sub b a ≤ r := by omega
    rw [sat_id (x := sat a + r) (by omega) (by omega)]; omega

/-- ClosestPoint: its parameter; a component of the point. -/
def cpt (ax ay bx b_y px py : Int) : Int := ratio ((sat px - sat ax) * (sat bx - sat ax) + (sat py - sat ay) * (sat b_y - sat ay)) (dist2 ax ay bx b_y)
def cpc (t a b : Int) : Int := if t = 0 then sat a else if t = 65536 then sat b else lerp a b t
theorem cpt_in (ax ay bx b_y px py : Int) : 0 ≤ cpt ax ay bx b_y px py ∧ cpt ax ay bx b_y px py ≤ 65536 := ratio_in _ _
theorem cpc_zero (a b : Int) : cpc 0 a b = sat a := if_pos rfl
theorem cpc_one (a b : Int) : cpc 65536 a b = sat b := by unfold cpc; rw [if_neg (by decide), if_pos rfl]
theorem cpc_mid {t a b : Int} (h0 : t ≠ 0) (h1 : t ≠ 65536) : cpc t a b = lerp a b t := by unfold cpc; rw [if_neg h0, if_neg h1]
theorem cpc_between {t a b : Int} (h0 : 0 ≤ t) (h1 : t ≤ 65536) : min (sat a) (sat b) ≤ cpc t a b ∧ cpc t a b ≤ max (sat a) (sat b) := by
  unfold cpc; split
  · omega
  · split
    · omega
    · exact lerp_between h0 h1
theorem cpc_sat {t a b : Int} : sat (cpc t a b) = cpc t a b := by
  unfold cpc; split
  · exact sat_sat a
  · split
    · exact sat_sat b
    · exact lerp_sat a b t
theorem lerp_ss (a b t : Int) : lerp (sat a) (sat b) t = lerp a b t := by unfold lerp add sub; rw [sat_sat, sat_sat]
theorem dist2_ss (ax ay bx b_y : Int) : dist2 (sat ax) (sat ay) (sat bx) (sat b_y) = dist2 ax ay bx b_y := by unfold dist2; simp only [sat_sat]
theorem det_ss (ax ay bx b_y cx cy : Int) : det (sat ax) (sat ay) (sat bx) (sat b_y) (sat cx) (sat cy) = det ax ay bx b_y cx cy := by unfold det; simp only [sat_sat]
theorem orient_ss (ax ay bx b_y cx cy : Int) : orient (sat ax) (sat ay) (sat bx) (sat b_y) (sat cx) (sat cy) = orient ax ay bx b_y cx cy := by unfold orient; rw [det_ss]
theorem cpt_ss (ax ay bx b_y px py : Int) : cpt (sat ax) (sat ay) (sat bx) (sat b_y) (sat px) (sat py) = cpt ax ay bx b_y px py := by unfold cpt; rw [dist2_ss]; simp only [sat_sat]
theorem cpc_ss (t a b : Int) : cpc t (sat a) (sat b) = cpc t a b := by unfold cpc; simp only [sat_sat, lerp_ss]
theorem cpt_point (ax ay px py : Int) : cpt ax ay ax ay px py = 0 := by
  unfold cpt; exact ratio_out (.inl (by unfold dist2; simp))

/-- Intersects. -/
def isct (ax ay bx b_y cx cy dx dy : Int) : Bool := decide (orient ax ay bx b_y cx cy * orient ax ay bx b_y dx dy ≤ 0) && decide (orient cx cy dx dy ax ay * orient cx cy dx dy bx b_y ≤ 0) && (Bx.two ax ay bx b_y).ovl (Bx.two cx cy dx dy)
theorem two_ss (ax ay bx b_y : Int) : Bx.two (sat ax) (sat ay) (sat bx) (sat b_y) = Bx.two ax ay bx b_y := by unfold Bx.two; simp only [sat_sat]
theorem isct_ss (ax ay bx b_y cx cy dx dy : Int) : isct (sat ax) (sat ay) (sat bx) (sat b_y) (sat cx) (sat cy) (sat dx) (sat dy) = isct ax ay bx b_y cx cy dx dy := by unfold isct; simp only [orient_ss, two_ss]
theorem ovl_comm (a b : Bx) : a.ovl b = b.ovl a := by
  unfold Bx.ovl
  rw [Bool.eq_iff_iff]; simp only [Bool.and_eq_true]
  constructor <;> (rintro ⟨⟨⟨⟨⟨h1, h2⟩, h3⟩, h4⟩, h5⟩, h6⟩; exact ⟨⟨⟨⟨⟨h2, h1⟩, h4⟩, h3⟩, h6⟩, h5⟩)
theorem two_comm (ax ay bx b_y : Int) : Bx.two bx b_y ax ay = Bx.two ax ay bx b_y := by unfold Bx.two; simp only [Bx.mk.injEq]; omega
theorem isct_swap (ax ay bx b_y cx cy dx dy : Int) : isct cx cy dx dy ax ay bx b_y = isct ax ay bx b_y cx cy dx dy := by
  unfold isct; rw [ovl_comm (Bx.two cx cy dx dy), Bool.and_comm (decide (orient cx cy dx dy ax ay * orient cx cy dx dy bx b_y ≤ 0))]
theorem isct_ba (ax ay bx b_y cx cy dx dy : Int) : isct bx b_y ax ay cx cy dx dy = isct ax ay bx b_y cx cy dx dy := by
  unfold isct
  rw [two_comm, or_bac ax ay bx b_y cx cy, or_bac ax ay bx b_y dx dy, Int.neg_mul_neg, Int.mul_comm (orient cx cy dx dy bx b_y)]
theorem isct_dc (ax ay bx b_y cx cy dx dy : Int) : isct ax ay bx b_y dx dy cx cy = isct ax ay bx b_y cx cy dx dy := by
  rw [isct_swap, isct_ba, isct_swap]
theorem orient_aa (ax ay bx b_y : Int) : orient ax ay bx b_y ax ay = 0 := by
  unfold orient; rw [show det ax ay bx b_y ax ay = 0 from by unfold det; simp]; decide
theorem orient_bb (ax ay bx b_y : Int) : orient ax ay bx b_y bx b_y = 0 := by
  unfold orient; rw [show det ax ay bx b_y bx b_y = 0 from by unfold det; grind]; decide
theorem two_val (ax ay bx b_y : Int) : (Bx.two ax ay bx b_y).val = true := by
  rw [Bx.val_iff]; unfold Bx.ok Bx.two
  have h1 := sat_le ax; have h2 := sat_ge ax; have h3 := sat_le ay; have h4 := sat_ge ay; have h5 := sat_le bx; have h6 := sat_ge bx; have h7 := sat_le b_y; have h8 := sat_ge b_y
  dsimp only
  refine ⟨by omega, by omega, ?_, ?_, ?_, ?_⟩ <;> exact (sat_id (by omega) (by omega)).symm
theorem two_share (ax ay bx b_y cx cy : Int) : (Bx.two ax ay bx b_y).ovl (Bx.two ax ay cx cy) = true := by
  have h1 := two_val ax ay bx b_y
  have h2 := two_val ax ay cx cy
  unfold Bx.ovl
  simp only [h1, h2, Bool.true_and, Bool.and_eq_true, decide_eq_true_eq]
  unfold Bx.two; dsimp only; omega
/-- Segments that share an end point. -/
theorem isct_share (ax ay bx b_y cx cy : Int) : isct ax ay bx b_y ax ay cx cy = true := by
  unfold isct
  rw [orient_aa, orient_aa, two_share, Int.zero_mul, Int.zero_mul]; rfl

/-- ClosestPoints: the candidates, the first of the best; Distance. -/
def absc (cx cy dx dy px py : Int) : Int := if det cx cy dx dy px py < 0 then -det cx cy dx dy px py else det cx cy dx dy px py
def sgt (ax ay bx b_y cx cy dx dy : Int) : Int := ratio (absc cx cy dx dy ax ay) (absc cx cy dx dy ax ay + absc cx cy dx dy bx b_y)
/-- Two points. -/
structure Pp where
  px : Int
  py : Int
  qx : Int
  qy : Int
  deriving DecidableEq, Inhabited
def Pp.d (p : Pp) : Int := dist2 p.px p.py p.qx p.qy
def Pp.pick (o n : Pp) : Pp := if n.d < o.d then n else o
theorem Pp.pick_d (o n : Pp) : (o.pick n).d = min o.d n.d := by unfold Pp.pick; split <;> omega
def cand1 (ax ay bx b_y cx cy dx dy : Int) : Pp := ⟨sat ax, sat ay, cpc (cpt cx cy dx dy ax ay) cx dx, cpc (cpt cx cy dx dy ax ay) cy dy⟩
def cand2 (ax ay bx b_y cx cy dx dy : Int) : Pp := ⟨sat bx, sat b_y, cpc (cpt cx cy dx dy bx b_y) cx dx, cpc (cpt cx cy dx dy bx b_y) cy dy⟩
def cand3 (ax ay bx b_y cx cy dx dy : Int) : Pp := ⟨cpc (cpt ax ay bx b_y cx cy) ax bx, cpc (cpt ax ay bx b_y cx cy) ay b_y, sat cx, sat cy⟩
def cand4 (ax ay bx b_y cx cy dx dy : Int) : Pp := ⟨cpc (cpt ax ay bx b_y dx dy) ax bx, cpc (cpt ax ay bx b_y dx dy) ay b_y, sat dx, sat dy⟩
def best (ax ay bx b_y cx cy dx dy : Int) : Pp := (((cand1 ax ay bx b_y cx cy dx dy).pick (cand2 ax ay bx b_y cx cy dx dy)).pick (cand3 ax ay bx b_y cx cy dx dy)).pick (cand4 ax ay bx b_y cx cy dx dy)
def cps (ax ay bx b_y cx cy dx dy : Int) : Pp :=
  if isct ax ay bx b_y cx cy dx dy = true then ⟨lerp ax bx (sgt ax ay bx b_y cx cy dx dy), lerp ay b_y (sgt ax ay bx b_y cx cy dx dy), lerp ax bx (sgt ax ay bx b_y cx cy dx dy), lerp ay b_y (sgt ax ay bx b_y cx cy dx dy)⟩
  else best ax ay bx b_y cx cy dx dy
def sdist (ax ay bx b_y cx cy dx dy : Int) : Int := if isct ax ay bx b_y cx cy dx dy = true then 0 else sat (isq (best ax ay bx b_y cx cy dx dy).d)

theorem best_d (ax ay bx b_y cx cy dx dy : Int) : (best ax ay bx b_y cx cy dx dy).d = min (min (min (cand1 ax ay bx b_y cx cy dx dy).d (cand2 ax ay bx b_y cx cy dx dy).d) (cand3 ax ay bx b_y cx cy dx dy).d) (cand4 ax ay bx b_y cx cy dx dy).d := by
  unfold best; rw [Pp.pick_d, Pp.pick_d, Pp.pick_d]
theorem best_swap (ax ay bx b_y cx cy dx dy : Int) : (best cx cy dx dy ax ay bx b_y).d = (best ax ay bx b_y cx cy dx dy).d := by
  have e1 : (cand1 cx cy dx dy ax ay bx b_y).d = (cand3 ax ay bx b_y cx cy dx dy).d := by unfold cand1 cand3 Pp.d; exact dist2_comm ..
  have e2 : (cand2 cx cy dx dy ax ay bx b_y).d = (cand4 ax ay bx b_y cx cy dx dy).d := by unfold cand2 cand4 Pp.d; exact dist2_comm ..
  have e3 : (cand3 cx cy dx dy ax ay bx b_y).d = (cand1 ax ay bx b_y cx cy dx dy).d := by unfold cand1 cand3 Pp.d; exact dist2_comm ..
  have e4 : (cand4 cx cy dx dy ax ay bx b_y).d = (cand2 ax ay bx b_y cx cy dx dy).d := by unfold cand2 cand4 Pp.d; exact dist2_comm ..
  rw [best_d, best_d, e1, e2, e3, e4]; omega
theorem dist2_in (ax ay bx b_y : Int) : 0 ≤ dist2 ax ay bx b_y ∧ dist2 ax ay bx b_y ≤ 4611686018427387904 := by
  have h1 := @diffmul bx ax bx ax; have h2 := @diffmul b_y ay b_y ay; have h3 := sq_nn (sat bx - sat ax); have h4 := sq_nn (sat b_y - sat ay)
  have hb : ∀ p q : Int, (sat p - sat q) * (sat p - sat q) ≤ 1152921504606846976 := fun p q => by
    have a0 := sat_le p; have a1 := sat_ge p; have b0 := sat_le q; have b1 := sat_ge q
    have := mul_between (a := sat p - sat q) (b := sat p - sat q) (A := 1073741824) (B := 1073741824) (by omega) (by omega) (by omega) (by omega)
    omega
  have h5 := hb bx ax
  have h6 := hb b_y ay
  unfold dist2; omega
theorem sdist_swap (ax ay bx b_y cx cy dx dy : Int) : sdist cx cy dx dy ax ay bx b_y = sdist ax ay bx b_y cx cy dx dy := by
  unfold sdist; rw [isct_swap, best_swap]
theorem sdist_in (ax ay bx b_y cx cy dx dy : Int) : 0 ≤ sdist ax ay bx b_y cx cy dx dy ∧ sdist ax ay bx b_y cx cy dx dy ≤ 536870911 := by
  unfold sdist
  split
  · omega
  · obtain ⟨h0, h1⟩ := dist2_in (best ax ay bx b_y cx cy dx dy).px (best ax ay bx b_y cx cy dx dy).py (best ax ay bx b_y cx cy dx dy).qx (best ax ay bx b_y cx cy dx dy).qy
    have h := (isq_is h0 h1).1
    refine ⟨?_, sat_le _⟩
    have := (sat_neg_iff (isq (best ax ay bx b_y cx cy dx dy).d))
    unfold Pp.d at *; omega
theorem sdist_isct {ax ay bx b_y cx cy dx dy : Int} (h : isct ax ay bx b_y cx cy dx dy = true) : sdist ax ay bx b_y cx cy dx dy = 0 := if_pos h
theorem sdist_share (ax ay bx b_y cx cy : Int) : sdist ax ay bx b_y bx b_y cx cy = 0 := by
  refine sdist_isct ?_
  rw [← isct_ba]; exact isct_share ..

end Go.Proofs.YtaahgblkmajceaaGreat.Fx

set_option linter.unusedVariables false
namespace Go.Proofs.YtaahgblkmajceaaGreat.Fx

/-- What is known of a ratio's error, for either end. -/
theorem ratio_err {n l : Int} (hl0 : 0 ≤ l) (hl1 : l ≤ 4611686018427387904) (hn0 : -4611686018427387904 ≤ n) (hn1 : n ≤ 4611686018427387904) (hz : l = 0 → n = 0) :
    ratio n l * (ratio n l * l - 131072 * n) < 4294967296 ∧ (65536 - ratio n l) * ((65536 - ratio n l) * l - 131072 * (l - n)) < 4294967296 := by
  have key : ∀ {k x : Int}, 0 ≤ k → (k = 0 ∨ x ≤ 0 ∨ (k = 1 ∧ x < 4294967296)) → k * x < 4294967296 := fun {k x} hk h => by
    rcases h with rfl | h | ⟨rfl, h⟩
    · simp
    · have := Int.mul_nonpos_of_nonneg_of_nonpos hk h; omega
    · omega
  have e2 : ∀ k : Int, (65536 - k) * l - 131072 * (l - n) = 131072 * n - k * l - 65536 * l := fun k => by rw [Int.sub_mul]; omega
  by_cases h0 : l < 1 ∨ 4611686018427387904 < l ∨ n < 1
  · rw [ratio_out h0, e2]
    refine ⟨by simp, key (by omega) ?_⟩
    right; left
    by_cases h : l = 0
    · have := hz h; omega
    · omega
  by_cases h1 : l ≤ n
  · rw [ratio_one (by omega) (by omega) (by omega) h1]
    exact ⟨key (by omega) (.inr (.inl (by omega))), by simp⟩
  by_cases h2 : l < 70368744177664
  · obtain ⟨g0, g1⟩ := ratio_in n l
    rw [ratio_low (by omega) (by omega) (by omega) h2, rdiv_in (by omega) (by omega) (by omega) (by omega)] at *
    have hr := rcore_near (n := n * 65536) (d := l) (by omega)
    rw [e2]
    generalize rcore (n * 65536) l = k at *
    constructor
    · refine key g0 ?_
      by_cases hk : k = 0
      · exact .inl hk
      · right; left
        have : 1 * l ≤ k * l := Int.mul_le_mul_of_nonneg_right (by omega) (by omega)
        omega
    · refine key (by omega) ?_
      by_cases hk : k = 65536
      · exact .inl (by omega)
      · right; left
        have : k * l ≤ 65535 * l := Int.mul_le_mul_of_nonneg_right (by omega) (by omega)
        omega
  · obtain ⟨g0, g1⟩ := ratio_in n l
    have hR := rcore_near (n := l) (d := 65536) (by omega)
    have eR : rdiv l 65536 = rcore l 65536 := rdiv_in (by omega) (by omega) (by omega) (by omega)
    have e : ratio n l = min 65536 (rdiv n (rcore l 65536)) := by rw [ratio_high (by omega) (by omega) (by omega) (by omega), eR]
    generalize rcore l 65536 = R at *
    rw [rdiv_in (by omega) (by omega) (by omega) (by omega)] at e
    have hr := rcore_near (n := n) (d := R) (by omega)
    have hk : rcore n R ≤ 65536 := by
      false_or_by_contra
      have : 65537 * R ≤ rcore n R * R := Int.mul_le_mul_of_nonneg_right (by omega) (by omega)
      omega
    rw [show min 65536 (rcore n R) = rcore n R from by omega] at e
    rw [e] at g0 g1 ⊢
    rw [e2]
    clear e hk eR e2 h0 h1
    generalize rcore n R = k at *
    -- k * l against k * R
    have m1 : k * l ≤ k * (R * 65536 + 32768) := Int.mul_le_mul_of_nonneg_left (by omega) g0
    have m2 : k * (R * 65536 - 32768) ≤ k * l := Int.mul_le_mul_of_nonneg_left (by omega) g0
    have x1 : k * (R * 65536 + 32768) = k * R * 65536 + k * 32768 := by rw [Int.mul_add, Int.mul_assoc]
    have x2 : k * (R * 65536 - 32768) = k * R * 65536 - k * 32768 := by rw [Int.mul_sub, Int.mul_assoc]
    rw [x1] at m1
    rw [x2] at m2
    constructor
    · refine key g0 ?_
      by_cases hk0 : k = 0
      · exact .inl hk0
      by_cases hk1 : k = 1
      · subst hk1; right; right; exact ⟨rfl, by omega⟩
      · right; left
        have : 2 * R ≤ k * R := Int.mul_le_mul_of_nonneg_right (by omega) (by omega)
        omega
    · refine key (by omega) ?_
      by_cases hk0 : k = 65536
      · exact .inl (by omega)
      by_cases hk1 : k = 65535
      · subst hk1; right; right; exact ⟨by omega, by omega⟩
      · right; left
        have : k * R ≤ 65534 * R := Int.mul_le_mul_of_nonneg_right (by omega) (by omega)
        omega

/-- An error of at most one and a half in each component: the distance is less than four greater. -/
theorem end_core {ux uy wx wy k ex ey gx gy L : Int} (hr : k * (k * (wx * wx + wy * wy) - 131072 * (ux * wx + uy * wy)) < 4294967296) (ex0 : -98304 ≤ ex) (ex1 : ex ≤ 98304) (ey0 : -98304 ≤ ey) (ey1 : ey ≤ 98304)
    (hx : 65536 * gx = 65536 * ux - k * wx - ex) (hy : 65536 * gy = 65536 * uy - k * wy - ey) (hL0 : 0 ≤ L) (hL : ux * ux + uy * uy < (L + 1) * (L + 1)) : gx * gx + gy * gy < (L + 5) * (L + 5) := by
  obtain ⟨X, hX⟩ : ∃ X, 65536 * ux - k * wx = X := ⟨_, rfl⟩
  obtain ⟨Y, hY⟩ : ∃ Y, 65536 * uy - k * wy = Y := ⟨_, rfl⟩
  have hV : X * X + Y * Y = 4294967296 * (ux * ux + uy * uy) + k * (k * (wx * wx + wy * wy) - 131072 * (ux * wx + uy * wy)) := by rw [← hX, ← hY]; grind
  rw [hX] at hx
  rw [hY] at hy
  obtain ⟨M, hM⟩ : ∃ M, 65536 * (L + 1) = M := ⟨_, rfl⟩
  have hM2 : M * M = 4294967296 * ((L + 1) * (L + 1)) := by rw [← hM]; grind
  have hXY : X * X + Y * Y < M * M := by omega
  have hx2 := sq_nn X
  have hy2 := sq_nn Y
  have bX : ∀ Z : Int, Z * Z < M * M → -M ≤ Z ∧ Z ≤ M := fun Z hZ => by
    constructor
    · false_or_by_contra
      have : M * M ≤ (-Z) * (-Z) := Int.mul_le_mul (by omega) (by omega) (by omega) (by omega)
      rw [Int.neg_mul_neg] at this; omega
    · false_or_by_contra
      have : M * M ≤ Z * Z := Int.mul_le_mul (by omega) (by omega) (by omega) (by omega)
      omega
  obtain ⟨a0, a1⟩ := bX X (by omega)
  obtain ⟨b0, b1⟩ := bX Y (by omega)
  have p1 := mul_between (a := X) (b := ex) (A := M) (B := 98304) (by omega) (by omega) (by omega) (by omega)
  have p2 := mul_between (a := Y) (b := ey) (A := M) (B := 98304) (by omega) (by omega) (by omega) (by omega)
  have p3 := mul_between (a := ex) (b := ex) (A := 98304) (B := 98304) (by omega) (by omega) (by omega) (by omega)
  have p4 := mul_between (a := ey) (b := ey) (A := 98304) (B := 98304) (by omega) (by omega) (by omega) (by omega)
  have q : 4294967296 * (gx * gx + gy * gy) = X * X + Y * Y - 2 * (X * ex) - 2 * (Y * ey) + ex * ex + ey * ey := by
    have h1 : 4294967296 * (gx * gx + gy * gy) = (65536 * gx) * (65536 * gx) + (65536 * gy) * (65536 * gy) := by grind
    rw [h1, hx, hy]; grind
  have z : (L + 5) * (L + 5) = (L + 1) * (L + 1) + 8 * (L + 1) + 16 := by grind
  rw [z]
  have hM3 : M * 98304 = 6442450944 * (L + 1) := by rw [← hM]; omega
  omega

/-- The computed closest point, component by component, and its error. -/
theorem cpc_err {t a b : Int} (h0 : 0 ≤ t) (h1 : t ≤ 65536) (a0 : -268435456 ≤ a) (a1 : a ≤ 268435456) (b0 : -268435456 ≤ b) (b1 : b ≤ 268435456) :
    ∃ e, -98304 ≤ e ∧ e ≤ 98304 ∧ 65536 * cpc t a b = 65536 * a + t * (b - a) + e := by
  have sa := sat_id (x := a) (by omega) (by omega)
  have sb := sat_id (x := b) (by omega) (by omega)
  by_cases t0 : t = 0
  · subst t0; rw [cpc_zero, sa]; exact ⟨0, by omega, by omega, by omega⟩
  by_cases t1 : t = 65536
  · subst t1; rw [cpc_one, sb]; exact ⟨0, by omega, by omega, by omega⟩
  rw [cpc_mid t0 t1]
  obtain ⟨r, hr, r0, r1, r2, r3⟩ := lerp_at (a := a) (b := b) h0 h1
  obtain ⟨m0, m1⟩ := lerp_between (a := a) (b := b) h0 h1
  have hD : sub b a = sat (b - a) := by unfold sub; rw [sa, sb]
  have hl : lerp a b t = a + r := by
    rw [sa] at hr
    by_cases h : -536870911 ≤ a + r ∧ a + r ≤ 536870911
    · rw [hr, sat_id h.1 h.2]
    · rw [sa, sb] at m0 m1
      have : sat (a + r) = 536870911 ∨ sat (a + r) = -536870911 := by unfold sat; split <;> (try split) <;> omega
      omega
  rw [hl]
  have hd : sub b a = b - a ∨ (sub b a = b - a - 1) ∨ (sub b a = b - a + 1) := by rw [hD]; unfold sat; split <;> (try split) <;> omega
  refine ⟨65536 * r - t * (b - a), ?_, ?_, by omega⟩
  all_goals
    rcases hd with hd | hd | hd
    all_goals
      rw [hd] at r2 r3
      first
        | (rw [Int.mul_comm t]; omega)
        | (rw [Int.sub_mul] at r2 r3; rw [Int.mul_comm t]; omega)
        | (rw [Int.add_mul] at r2 r3; rw [Int.mul_comm t]; omega)

/-- The computed distance of p from a segment's point closest to it, against its distance from either end. -/
theorem cand_ends {px py cx cy dx dy L : Int} (p0 : -268435456 ≤ px ∧ px ≤ 268435456) (p1 : -268435456 ≤ py ∧ py ≤ 268435456) (c0 : -268435456 ≤ cx ∧ cx ≤ 268435456) (c1 : -268435456 ≤ cy ∧ cy ≤ 268435456) (d0 : -268435456 ≤ dx ∧ dx ≤ 268435456) (d1 : -268435456 ≤ dy ∧ dy ≤ 268435456) (hL0 : 0 ≤ L)
    (hL : (cx - px) * (cx - px) + (cy - py) * (cy - py) < (L + 1) * (L + 1) ∨ (dx - px) * (dx - px) + (dy - py) * (dy - py) < (L + 1) * (L + 1)) :
    dist2 (sat px) (sat py) (cpc (cpt cx cy dx dy px py) cx dx) (cpc (cpt cx cy dx dy px py) cy dy) < (L + 5) * (L + 5) := by
  have hd : dist2 (sat px) (sat py) (cpc (cpt cx cy dx dy px py) cx dx) (cpc (cpt cx cy dx dy px py) cy dy) = (px - cpc (cpt cx cy dx dy px py) cx dx) * (px - cpc (cpt cx cy dx dy px py) cx dx) + (py - cpc (cpt cx cy dx dy px py) cy dy) * (py - cpc (cpt cx cy dx dy px py) cy dy) := by
    unfold dist2
    simp only [cpc_sat, sat_sat]
    rw [sat_id (x := px) (by omega) (by omega), sat_id (x := py) (by omega) (by omega)]; grind
  rw [hd]
  have hl : dist2 cx cy dx dy = (dx - cx) * (dx - cx) + (dy - cy) * (dy - cy) := by
    unfold dist2
    rw [sat_id (x := cx) (by omega) (by omega), sat_id (x := cy) (by omega) (by omega), sat_id (x := dx) (by omega) (by omega), sat_id (x := dy) (by omega) (by omega)]
  have ht : cpt cx cy dx dy px py = ratio ((px - cx) * (dx - cx) + (py - cy) * (dy - cy)) ((dx - cx) * (dx - cx) + (dy - cy) * (dy - cy)) := by
    unfold cpt
    rw [hl, sat_id (x := cx) (by omega) (by omega), sat_id (x := cy) (by omega) (by omega), sat_id (x := dx) (by omega) (by omega), sat_id (x := dy) (by omega) (by omega), sat_id (x := px) (by omega) (by omega), sat_id (x := py) (by omega) (by omega)]
  obtain ⟨l0, l1⟩ := dist2_in cx cy dx dy
  rw [hl] at l0 l1
  have n1 := mul_between (a := px - cx) (b := dx - cx) (A := 536870912) (B := 536870912) (by omega) (by omega) (by omega) (by omega)
  have n2 := mul_between (a := py - cy) (b := dy - cy) (A := 536870912) (B := 536870912) (by omega) (by omega) (by omega) (by omega)
  have hz : (dx - cx) * (dx - cx) + (dy - cy) * (dy - cy) = 0 → (px - cx) * (dx - cx) + (py - cy) * (dy - cy) = 0 := fun h => by
    have s1 := sq_nn (dx - cx); have s2 := sq_nn (dy - cy)
    have z1 : dx - cx = 0 := by
      have : (dx - cx) * (dx - cx) = 0 := by omega
      rcases Int.mul_eq_zero.1 this with h | h <;> exact h
    have z2 : dy - cy = 0 := by
      have : (dy - cy) * (dy - cy) = 0 := by omega
      rcases Int.mul_eq_zero.1 this with h | h <;> exact h
    rw [z1, z2]; simp
  obtain ⟨r1, r2⟩ := ratio_err l0 l1 (by omega) (by omega) hz
  rw [← ht] at r1 r2
  obtain ⟨t0, t1⟩ := cpt_in cx cy dx dy px py
  obtain ⟨ex, ex0, ex1, hx⟩ := cpc_err t0 t1 c0.1 c0.2 d0.1 d0.2
  obtain ⟨ey, ey0, ey1, hy⟩ := cpc_err t0 t1 c1.1 c1.2 d1.1 d1.2
  generalize cpc (cpt cx cy dx dy px py) cx dx = qx at *
  generalize cpc (cpt cx cy dx dy px py) cy dy = qy at *
  generalize cpt cx cy dx dy px py = t at *
  rcases hL with hL | hL
  · refine end_core (ux := px - cx) (uy := py - cy) (wx := dx - cx) (wy := dy - cy) (k := t) (ex := ex) (ey := ey) r1 ex0 ex1 ey0 ey1 (by omega) (by omega) hL0 ?_
    have e1 : (px - cx) * (px - cx) = (cx - px) * (cx - px) := by grind
    have e2 : (py - cy) * (py - cy) = (cy - py) * (cy - py) := by grind
    omega
  · refine end_core (ux := px - dx) (uy := py - dy) (wx := cx - dx) (wy := cy - dy) (k := 65536 - t) (ex := ex) (ey := ey) ?_ ex0 ex1 ey0 ey1 ?_ ?_ hL0 ?_
    · have e1 : (cx - dx) * (cx - dx) + (cy - dy) * (cy - dy) = (dx - cx) * (dx - cx) + (dy - cy) * (dy - cy) := by grind
      have e2 : (px - dx) * (cx - dx) + (py - dy) * (cy - dy) = ((dx - cx) * (dx - cx) + (dy - cy) * (dy - cy)) - ((px - cx) * (dx - cx) + (py - cy) * (dy - cy)) := by grind
      rw [e1, e2]; exact r2
    · have : (65536 - t) * (cx - dx) = 65536 * (cx - dx) + t * (dx - cx) := by grind
      omega
    · have : (65536 - t) * (cy - dy) = 65536 * (cy - dy) + t * (dy - cy) := by grind
      omega
    · have e1 : (px - dx) * (px - dx) = (dx - px) * (dx - px) := by grind
      have e2 : (py - dy) * (py - dy) = (dy - py) * (dy - py) := by grind
      omega

/-- The length of a difference: exact, or saturated. -/
theorem vlen_sub {ax ay cx cy : Int} (a0 : -268435456 ≤ ax ∧ ax ≤ 268435456) (a1 : -268435456 ≤ ay ∧ ay ≤ 268435456) (c0 : -268435456 ≤ cx ∧ cx ≤ 268435456) (c1 : -268435456 ≤ cy ∧ cy ≤ 268435456) :
    0 ≤ vlen (sub cx ax) (sub cy ay) ∧ ((cx - ax) * (cx - ax) + (cy - ay) * (cy - ay) < (vlen (sub cx ax) (sub cy ay) + 1) * (vlen (sub cx ax) (sub cy ay) + 1) ∨ 536870911 ≤ vlen (sub cx ax) (sub cy ay)) := by
  obtain ⟨h0, h1, h2, h3⟩ := vlen_is (sub cx ax) (sub cy ay)
  have ex : sat (sub cx ax) = sat (cx - ax) := by unfold sub; rw [sat_sat, sat_id (x := cx) (by omega) (by omega), sat_id (x := ax) (by omega) (by omega)]
  have ey : sat (sub cy ay) = sat (cy - ay) := by unfold sub; rw [sat_sat, sat_id (x := cy) (by omega) (by omega), sat_id (x := ay) (by omega) (by omega)]
  rw [ex, ey] at h2 h3
  refine ⟨h0, ?_⟩
  generalize vlen (sub cx ax) (sub cy ay) = L at *
  have big : ∀ X S : Int, (X = 536870911 ∨ X = -536870911) → 0 ≤ S → X * X + S < (L + 1) * (L + 1) → 536870911 ≤ L := fun X S hX hS h => by
    have e : X * X = 288230375077969921 := by rcases hX with rfl | rfl <;> decide
    false_or_by_contra
    have : (L + 1) * (L + 1) ≤ 536870911 * 536870911 := Int.mul_le_mul (by omega) (by omega) (by omega) (by omega)
    omega
  by_cases hx : -536870911 ≤ cx - ax ∧ cx - ax ≤ 536870911
  · by_cases hy : -536870911 ≤ cy - ay ∧ cy - ay ≤ 536870911
    · left; rw [sat_id hx.1 hx.2, sat_id hy.1 hy.2] at h3; exact h3
    · right; exact big (sat (cy - ay)) (sat (cx - ax) * sat (cx - ax)) (by unfold sat; split <;> (try split) <;> omega) (sq_nn _) (by omega)
  · right; exact big (sat (cx - ax)) (sat (cy - ay) * sat (cy - ay)) (by unfold sat; split <;> (try split) <;> omega) (sq_nn _) h3
theorem sdist_small {ax ay bx b_y cx cy dx dy L : Int} (hL0 : 0 ≤ L) (h : (cand1 ax ay bx b_y cx cy dx dy).d < (L + 5) * (L + 5) ∨ (cand2 ax ay bx b_y cx cy dx dy).d < (L + 5) * (L + 5) ∨ 536870911 ≤ L) : sdist ax ay bx b_y cx cy dx dy - 4 ≤ L := by
  have hs := sdist_in ax ay bx b_y cx cy dx dy
  rcases h with h | h | h
  rotate_left 2
  · omega
  all_goals
    unfold sdist
    split
    · omega
    · obtain ⟨h0, h1⟩ := dist2_in (best ax ay bx b_y cx cy dx dy).px (best ax ay bx b_y cx cy dx dy).py (best ax ay bx b_y cx cy dx dy).qx (best ax ay bx b_y cx cy dx dy).qy
      obtain ⟨i0, i1, -⟩ := isq_is h0 h1
      have hb := best_d ax ay bx b_y cx cy dx dy
      have hq : isq (best ax ay bx b_y cx cy dx dy).d ≤ L + 4 := sq_unique (n := (best ax ay bx b_y cx cy dx dy).d) i0 (by omega) i1 (by rw [show L + 4 + 1 = L + 5 from by omega]; omega)
      have : sat (isq (best ax ay bx b_y cx cy dx dy).d) ≤ isq (best ax ay bx b_y cx cy dx dy).d := by
        have : 0 ≤ isq (best ax ay bx b_y cx cy dx dy).d := i0
        unfold sat; split <;> (try split) <;> omega
      omega
def wl (x : Int) : Prop := -268435456 ≤ x ∧ x ≤ 268435456
theorem ends_ca {ax ay bx b_y cx cy dx dy : Int} (a0 : wl ax) (a1 : wl ay) (b0 : wl bx) (b1 : wl b_y) (c0 : wl cx) (c1 : wl cy) (d0 : wl dx) (d1 : wl dy) : sdist ax ay bx b_y cx cy dx dy - 4 ≤ vlen (sub cx ax) (sub cy ay) := by
  obtain ⟨h0, h | h⟩ := vlen_sub a0 a1 c0 c1
  · exact sdist_small h0 (.inl (cand_ends a0 a1 c0 c1 d0 d1 h0 (.inl h)))
  · exact sdist_small h0 (.inr (.inr h))
theorem ends_da {ax ay bx b_y cx cy dx dy : Int} (a0 : wl ax) (a1 : wl ay) (b0 : wl bx) (b1 : wl b_y) (c0 : wl cx) (c1 : wl cy) (d0 : wl dx) (d1 : wl dy) : sdist ax ay bx b_y cx cy dx dy - 4 ≤ vlen (sub dx ax) (sub dy ay) := by
  obtain ⟨h0, h | h⟩ := vlen_sub a0 a1 d0 d1
  · exact sdist_small h0 (.inl (cand_ends a0 a1 c0 c1 d0 d1 h0 (.inr h)))
  · exact sdist_small h0 (.inr (.inr h))
theorem ends_cb {ax ay bx b_y cx cy dx dy : Int} (a0 : wl ax) (a1 : wl ay) (b0 : wl bx) (b1 : wl b_y) (c0 : wl cx) (c1 : wl cy) (d0 : wl dx) (d1 : wl dy) : sdist ax ay bx b_y cx cy dx dy - 4 ≤ vlen (sub cx bx) (sub cy b_y) := by
  obtain ⟨h0, h | h⟩ := vlen_sub b0 b1 c0 c1
  · exact sdist_small h0 (.inr (.inl (cand_ends b0 b1 c0 c1 d0 d1 h0 (.inl h))))
  · exact sdist_small h0 (.inr (.inr h))
theorem ends_db {ax ay bx b_y cx cy dx dy : Int} (a0 : wl ax) (a1 : wl ay) (b0 : wl bx) (b1 : wl b_y) (c0 : wl cx) (c1 : wl cy) (d0 : wl dx) (d1 : wl dy) : sdist ax ay bx b_y cx cy dx dy - 4 ≤ vlen (sub dx bx) (sub dy b_y) := by
  obtain ⟨h0, h | h⟩ := vlen_sub b0 b1 d0 d1
  · exact sdist_small h0 (.inr (.inl (cand_ends b0 b1 c0 c1 d0 d1 h0 (.inr h))))
  · exact sdist_small h0 (.inr (.inr h))

end Go.Proofs.YtaahgblkmajceaaGreat.Fx

set_option linter.unusedVariables false
namespace Go.Proofs.YtaahgblkmajceaaGreat.Fx

/-- A point lies between two others, number by number. -/
def inB (ax ay bx b_y x y : Int) : Prop := min (sat ax) (sat bx) ≤ sat x ∧ sat x ≤ max (sat ax) (sat bx) ∧ min (sat ay) (sat b_y) ≤ sat y ∧ sat y ≤ max (sat ay) (sat b_y)
theorem two_has {ax ay bx b_y x y : Int} (h : inB ax ay bx b_y x y) : has6 (min (sat ax) (sat bx)) (min (sat ay) (sat b_y)) (max (sat ax) (sat bx)) (max (sat ay) (sat b_y)) x y = true :=
  Bx.has_iff.2 ⟨Bx.val_iff.1 (two_val ax ay bx b_y), h.1, h.2.1, h.2.2.1, h.2.2.2⟩
theorem inB_a (ax ay bx b_y : Int) : inB ax ay bx b_y (sat ax) (sat ay) := by unfold inB; rw [sat_sat, sat_sat]; omega
theorem inB_b (ax ay bx b_y : Int) : inB ax ay bx b_y (sat bx) (sat b_y) := by unfold inB; rw [sat_sat, sat_sat]; omega
theorem inB_cpc {t ax ay bx b_y : Int} (h0 : 0 ≤ t) (h1 : t ≤ 65536) : inB ax ay bx b_y (cpc t ax bx) (cpc t ay b_y) := by
  unfold inB; rw [cpc_sat, cpc_sat]
  have h2 := cpc_between (a := ax) (b := bx) h0 h1
  have h3 := cpc_between (a := ay) (b := b_y) h0 h1
  exact ⟨h2.1, h2.2, h3.1, h3.2⟩
theorem inB_lerp {t ax ay bx b_y : Int} (h0 : 0 ≤ t) (h1 : t ≤ 65536) : inB ax ay bx b_y (lerp ax bx t) (lerp ay b_y t) := by
  unfold inB; rw [lerp_sat, lerp_sat]
  have h2 := lerp_between (a := ax) (b := bx) h0 h1
  have h3 := lerp_between (a := ay) (b := b_y) h0 h1
  exact ⟨h2.1, h2.2, h3.1, h3.2⟩
def Pp.In (p : Pp) (ax ay bx b_y cx cy dx dy : Int) : Prop := inB ax ay bx b_y p.px p.py ∧ inB cx cy dx dy p.qx p.qy
theorem Pp.In.pick {o n : Pp} {ax ay bx b_y cx cy dx dy : Int} (h : o.In ax ay bx b_y cx cy dx dy) (k : n.In ax ay bx b_y cx cy dx dy) : (o.pick n).In ax ay bx b_y cx cy dx dy := by unfold Pp.pick; split; exact k; exact h
theorem best_in (ax ay bx b_y cx cy dx dy : Int) : (best ax ay bx b_y cx cy dx dy).In ax ay bx b_y cx cy dx dy := by
  have g := cpt_in
  refine Pp.In.pick (Pp.In.pick (Pp.In.pick ?_ ?_) ?_) ?_
  · exact ⟨inB_a .., inB_cpc (g ..).1 (g ..).2⟩
  · exact ⟨inB_b .., inB_cpc (g ..).1 (g ..).2⟩
  · exact ⟨inB_cpc (g ..).1 (g ..).2, inB_a ..⟩
  · exact ⟨inB_cpc (g ..).1 (g ..).2, inB_b ..⟩
theorem cps_p (ax ay bx b_y cx cy dx dy : Int) : inB ax ay bx b_y (cps ax ay bx b_y cx cy dx dy).px (cps ax ay bx b_y cx cy dx dy).py := by
  unfold cps
  split
  · exact inB_lerp (ratio_in _ _).1 (ratio_in _ _).2
  · exact (best_in ..).1
theorem cps_q {ax ay bx b_y cx cy dx dy : Int} (h : isct ax ay bx b_y cx cy dx dy = false) : inB cx cy dx dy (cps ax ay bx b_y cx cy dx dy).qx (cps ax ay bx b_y cx cy dx dy).qy := by
  unfold cps
  rw [h, if_neg (by simp)]
  exact (best_in ..).2

/-- Outside of the world. -/
def outv (x y : Int) : Bool := decide (x < -268435456) || decide (268435456 < x) || decide (y < -268435456) || decide (268435456 < y)
theorem outv_in {x y : Int} (h : outv x y = false) : wl x ∧ wl y := by
  unfold outv at h; simp at h; unfold wl; omega

end Go.Proofs.YtaahgblkmajceaaGreat.Fx
