/- Plain mathematics: what the statements of chapter 5 say of the Lean functions of bounding boxes. No program is imported. -/
import Derived.Test.YtconfbdnhalmoaaBx
set_option linter.unusedVariables false
namespace Go.Proofs.Ytconfbdnhalmoaa.Fx

/-! ### Overlap -/
theorem Bx.ovl_iff {a b : Bx} : a.ovl b = true ↔ a.ok ∧ b.ok ∧ a.x0 ≤ b.x1 ∧ b.x0 ≤ a.x1 ∧ a.y0 ≤ b.y1 ∧ b.y0 ≤ a.y1 := by
  simp [Bx.ovl, Bx.val, and_assoc]
theorem Bx.con_iff {a b : Bx} : a.con b = true ↔ a.ok ∧ b.ok ∧ a.x0 ≤ b.x0 ∧ b.x1 ≤ a.x1 ∧ a.y0 ≤ b.y0 ∧ b.y1 ≤ a.y1 := by
  simp [Bx.con, Bx.val, and_assoc]
theorem Bx.has_iff {b : Bx} {x y : Int} : b.has x y = true ↔ b.ok ∧ b.x0 ≤ sat x ∧ sat x ≤ b.x1 ∧ b.y0 ≤ sat y ∧ sat y ≤ b.y1 := by
  simp [Bx.has, Bx.val, and_assoc]
theorem Bx.ovl_comm (a b : Bx) : a.ovl b = b.ovl a := by
  rw [Bool.eq_iff_iff, Bx.ovl_iff, Bx.ovl_iff]; constructor <;> (intro h; obtain ⟨h1, h2, h3, h4, h5, h6⟩ := h; exact ⟨h2, h1, h4, h3, h6, h5⟩)
theorem Bx.ovl_self (a : Bx) : a.ovl a = a.val := by
  rw [Bool.eq_iff_iff, Bx.ovl_iff, Bx.val_iff]
  constructor
  · exact fun h => h.1
  · intro h; have h' := h; obtain ⟨h1, h2, _⟩ := h'; exact ⟨h, h, h1, h1, h2, h2⟩
theorem sat_max {a b : Int} (ha : a = sat a) (hb : b = sat b) : sat (max a b) = max a b := by
  rcases Int.le_total a b with h | h
  · rw [Int.max_eq_right h]; exact hb.symm
  · rw [Int.max_eq_left h]; exact ha.symm
theorem sat_min {a b : Int} (ha : a = sat a) (hb : b = sat b) : sat (min a b) = min a b := by
  rcases Int.le_total a b with h | h
  · rw [Int.min_eq_left h]; exact ha.symm
  · rw [Int.min_eq_right h]; exact hb.symm
theorem Bx.ovl_point (a b : Bx) : a.ovl b = (a.val && b.val && a.has (max a.x0 b.x0) (max a.y0 b.y0) && b.has (max a.x0 b.x0) (max a.y0 b.y0)) := by
  rw [Bool.eq_iff_iff]
  simp only [Bool.and_eq_true, Bx.ovl_iff, Bx.has_iff, Bx.val_iff]
  constructor
  · rintro ⟨h1, h2, h3, h4, h5, h6⟩
    have p1 := h1; have p2 := h2
    obtain ⟨a1, a2, a3, a4, a5, a6⟩ := p1
    obtain ⟨b1, b2, b3, b4, b5, b6⟩ := p2
    rw [sat_max a3 b3, sat_max a4 b4]
    exact ⟨⟨⟨h1, h2⟩, h1, by omega, by omega, by omega, by omega⟩, h2, by omega, by omega, by omega, by omega⟩
  · rintro ⟨⟨⟨h1, h2⟩, _, g1, g2, g3, g4⟩, _, k1, k2, k3, k4⟩
    have p1 := h1; have p2 := h2
    obtain ⟨a1, a2, a3, a4, a5, a6⟩ := p1
    obtain ⟨b1, b2, b3, b4, b5, b6⟩ := p2
    rw [sat_max a3 b3] at g1 g2 k1 k2
    rw [sat_max a4 b4] at g3 g4 k3 k4
    exact ⟨h1, h2, by omega, by omega, by omega, by omega⟩

/-! ### Unions -/
theorem Bx.uni_both {a b : Bx} (h1 : a.ok) (h2 : b.ok) : a.uni b = ⟨min a.x0 b.x0, min a.y0 b.y0, max a.x1 b.x1, max a.y1 b.y1⟩ := by
  simp [Bx.uni, Bx.val, h1, h2]
theorem Bx.uni_ok {a b : Bx} (h1 : a.ok) (h2 : b.ok) : (a.uni b).ok := by
  rw [Bx.uni_both h1 h2]
  obtain ⟨a1, a2, a3, a4, a5, a6⟩ := h1
  obtain ⟨b1, b2, b3, b4, b5, b6⟩ := h2
  exact ⟨by simp only; omega, by simp only; omega, (sat_min a3 b3).symm, (sat_min a4 b4).symm, (sat_max a5 b5).symm, (sat_max a6 b6).symm⟩
theorem Bx.con_self {a : Bx} (h : a.ok) : a.con a = true := Bx.con_iff.2 ⟨h, h, Int.le_refl _, Int.le_refl _, Int.le_refl _, Int.le_refl _⟩
theorem Bx.uni_con_l (a b : Bx) (h : a.val = true) : (a.uni b).con a = true := by
  have h1 := Bx.val_iff.1 h
  cases hb : b.val with
  | true =>
    have h2 := Bx.val_iff.1 hb
    refine Bx.con_iff.2 ⟨Bx.uni_ok h1 h2, h1, ?_⟩
    rw [Bx.uni_both h1 h2]; simp only; omega
  | false => rw [show a.uni b = a from by simp [Bx.uni, h, hb]]; exact Bx.con_self h1
theorem Bx.uni_con_r (a b : Bx) (h : b.val = true) : (a.uni b).con b = true := by
  have h2 := Bx.val_iff.1 h
  cases ha : a.val with
  | true =>
    have h1 := Bx.val_iff.1 ha
    refine Bx.con_iff.2 ⟨Bx.uni_ok h1 h2, h2, ?_⟩
    rw [Bx.uni_both h1 h2]; simp only; omega
  | false => rw [show a.uni b = b from by simp [Bx.uni, h, ha]]; exact Bx.con_self h2

/-! ### What is contained -/
theorem Bx.con_val {a b : Bx} (h : a.con b = true) : a.val = true ∧ b.val = true := ⟨Bx.val_iff.2 (Bx.con_iff.1 h).1, Bx.val_iff.2 (Bx.con_iff.1 h).2.1⟩
theorem Bx.con_uni {a b : Bx} (h : a.con b = true) : a.uni b = a := by
  obtain ⟨h1, h2, h3, h4, h5, h6⟩ := Bx.con_iff.1 h
  rw [Bx.uni_both h1 h2]
  cases a; simp only [Bx.mk.injEq] at *; omega
theorem Bx.con_ovl {a b c : Bx} (h : a.con b = true) (ho : b.ovl c = true) : a.ovl c = true := by
  obtain ⟨h1, h2, h3, h4, h5, h6⟩ := Bx.con_iff.1 h
  obtain ⟨_, o2, o3, o4, o5, o6⟩ := Bx.ovl_iff.1 ho
  exact Bx.ovl_iff.2 ⟨h1, o2, by omega, by omega, by omega, by omega⟩
theorem Bx.con_con {a b c : Bx} (h : a.con b = true) (ho : b.con c = true) : a.con c = true := by
  obtain ⟨h1, h2, h3, h4, h5, h6⟩ := Bx.con_iff.1 h
  obtain ⟨_, o2, o3, o4, o5, o6⟩ := Bx.con_iff.1 ho
  exact Bx.con_iff.2 ⟨h1, o2, by omega, by omega, by omega, by omega⟩
theorem Bx.con_has {a b : Bx} {x y : Int} (h : a.con b = true) (ho : b.has x y = true) : a.has x y = true := by
  obtain ⟨h1, h2, h3, h4, h5, h6⟩ := Bx.con_iff.1 h
  obtain ⟨_, o3, o4, o5, o6⟩ := Bx.has_iff.1 ho
  exact Bx.has_iff.2 ⟨h1, by omega, by omega, by omega, by omega⟩

/-! ### Boxes of points -/
theorem Bx.one_ok (p : Int × Int) : (Bx.one p).ok := ⟨Int.le_refl _, Int.le_refl _, (sat_sat _).symm, (sat_sat _).symm, (sat_sat _).symm, (sat_sat _).symm⟩
theorem Bx.step_uni {b : Bx} (h : b.ok) (p : Int × Int) : b.step p = b.uni (Bx.one p) := by rw [Bx.uni_both h (Bx.one_ok p)]; rfl
theorem Bx.step_ok {b : Bx} (h : b.ok) (p : Int × Int) : (b.step p).ok := by rw [Bx.step_uni h]; exact Bx.uni_ok h (Bx.one_ok p)
theorem Bx.uni_assoc {a b c : Bx} (h1 : a.ok) (h2 : b.ok) (h3 : c.ok) : (a.uni b).uni c = a.uni (b.uni c) := by
  rw [Bx.uni_both (Bx.uni_ok h1 h2) h3, Bx.uni_both h1 (Bx.uni_ok h2 h3), Bx.uni_both h1 h2, Bx.uni_both h2 h3]
  simp only [Bx.mk.injEq]; omega
theorem Bx.fold_ok : ∀ (ps : List (Int × Int)) (b : Bx), b.ok → (ps.foldl Bx.step b).ok
  | [], b, h => h
  | p :: ps, b, h => Bx.fold_ok ps _ (Bx.step_ok h p)
theorem Bx.pts_ok {ps : List (Int × Int)} (h : 0 < ps.length) : (Bx.pts ps).ok := by
  cases ps with
  | nil => simp at h
  | cons p ps => exact Bx.fold_ok ps _ (Bx.one_ok p)
theorem Bx.fold_uni : ∀ (ps : List (Int × Int)) (a b : Bx), a.ok → b.ok → ps.foldl Bx.step (a.uni b) = a.uni (ps.foldl Bx.step b)
  | [], a, b, _, _ => rfl
  | p :: ps, a, b, ha, hb => by
    simp only [List.foldl_cons]
    rw [Bx.step_uni (Bx.uni_ok ha hb), Bx.step_uni hb, Bx.uni_assoc ha hb (Bx.one_ok p), Bx.fold_uni ps a _ ha (Bx.uni_ok hb (Bx.one_ok p))]
theorem Bx.pts_append {ps qs : List (Int × Int)} (h1 : 0 < ps.length) (h2 : 0 < qs.length) : Bx.pts (ps ++ qs) = (Bx.pts ps).uni (Bx.pts qs) := by
  cases ps with
  | nil => simp at h1
  | cons p ps =>
    cases qs with
    | nil => simp at h2
    | cons q qs =>
      simp only [List.cons_append, Bx.pts, List.foldl_append, List.foldl_cons]
      rw [Bx.step_uni (Bx.fold_ok ps _ (Bx.one_ok p)), Bx.fold_uni qs _ _ (Bx.fold_ok ps _ (Bx.one_ok p)) (Bx.one_ok q)]
theorem Bx.pts_split {ps : List (Int × Int)} {n : Nat} (h1 : 0 < (ps.take n).length) (h2 : 0 < (ps.drop n).length) : (Bx.pts (ps.take n)).uni (Bx.pts (ps.drop n)) = Bx.pts ps := by
  rw [← Bx.pts_append h1 h2, List.take_append_drop]
theorem Bx.fold_con : ∀ (ps : List (Int × Int)) (b : Bx), b.ok → (ps.foldl Bx.step b).con b = true
  | [], b, h => Bx.con_self h
  | p :: ps, b, h => Bx.con_con (Bx.fold_con ps _ (Bx.step_ok h p)) (by rw [Bx.step_uni h]; exact Bx.uni_con_l _ _ (Bx.val_iff.2 h))
theorem Bx.pts_has {ps : List (Int × Int)} {i : Nat} (h : i < ps.length) : (Bx.pts ps).has ps[i].1 ps[i].2 = true := by
  have key : (Bx.pts ps).con (Bx.one ps[i]) = true := by
    have e : ps = ps.take i ++ (ps[i] :: ps.drop (i + 1)) := by simp
    have hq : (Bx.pts (ps[i] :: ps.drop (i + 1))).con (Bx.one ps[i]) = true := Bx.fold_con _ _ (Bx.one_ok _)
    by_cases h0 : 0 < (ps.take i).length
    · have e2 : Bx.pts ps = (Bx.pts (ps.take i)).uni (Bx.pts (ps[i] :: ps.drop (i + 1))) := by
        rw [← Bx.pts_append h0 (by simp only [List.length_cons]; omega), ← e]
      rw [e2]
      exact Bx.con_con (Bx.uni_con_r _ _ (Bx.con_val hq).1) hq
    · have hi : i = 0 := by rw [List.length_take] at h0; omega
      subst hi
      have e3 : ps = ps[0] :: ps.drop 1 := by simpa using e
      rw [show Bx.pts ps = Bx.pts (ps[0] :: ps.drop 1) from by rw [← e3]]
      exact hq
  obtain ⟨k1, k2, k3, k4, k5, k6⟩ := Bx.con_iff.1 key
  exact Bx.has_iff.2 ⟨k1, k3, k4, k5, k6⟩

/-! ### Margins -/
theorem sub_le {a m : Int} (h : 0 ≤ m) : sub a m ≤ sat a := by
  unfold sub
  have h1 := sat_le a; have h2 := sat_ge a
  have h3 : 0 ≤ sat m := by unfold sat; split <;> (try split) <;> omega
  have : sat (sat a - sat m) ≤ sat a := by
    rcases Int.lt_or_le (sat a - sat m) (-536870911) with hl | hl
    · rw [sat_lo hl]; exact h2
    · rw [sat_id (x := sat a - sat m) (by omega) (by omega)]; omega
  exact this
theorem le_add {a m : Int} (h : 0 ≤ m) : sat a ≤ add a m := by
  unfold add
  have h1 := sat_le a; have h2 := sat_ge a
  have h3 : 0 ≤ sat m := by unfold sat; split <;> (try split) <;> omega
  rcases Int.lt_or_le 536870911 (sat a + sat m) with hl | hl
  · rw [sat_hi hl]; exact h1
  · rw [sat_id (x := sat a + sat m) (by omega) (by omega)]; omega
theorem le_sub {a m : Int} (h : m ≤ 0) : sat a ≤ sub a m := by
  unfold sub
  have h1 := sat_le a; have h2 := sat_ge a
  have h3 : sat m ≤ 0 := by unfold sat; split <;> (try split) <;> omega
  rcases Int.lt_or_le 536870911 (sat a - sat m) with hl | hl
  · rw [sat_hi hl]; exact h1
  · rw [sat_id (x := sat a - sat m) (by omega) (by omega)]; omega
theorem add_le {a m : Int} (h : m ≤ 0) : add a m ≤ sat a := by
  unfold add
  have h1 := sat_le a; have h2 := sat_ge a
  have h3 : sat m ≤ 0 := by unfold sat; split <;> (try split) <;> omega
  rcases Int.lt_or_le (sat a + sat m) (-536870911) with hl | hl
  · rw [sat_lo hl]; exact h2
  · rw [sat_id (x := sat a + sat m) (by omega) (by omega)]; omega
theorem sub_sat' (a b : Int) : sub a b = sat (sub a b) := by unfold sub; rw [sat_sat]
theorem add_sat' (a b : Int) : add a b = sat (add a b) := by unfold add; rw [sat_sat]
theorem sat_mono {a b : Int} (h : a ≤ b) : sat a ≤ sat b := by unfold sat; split <;> split <;> (try split) <;> (try split) <;> omega
theorem Bx.mar_ok {b : Bx} {m : Int} (hb : b.ok) (hm : 0 ≤ m) : (b.mar m).ok := by
  obtain ⟨b1, b2, b3, b4, b5, b6⟩ := hb
  have h1 := sub_le (a := b.x0) hm; have h2 := sub_le (a := b.y0) hm; have h3 := le_add (a := b.x1) hm; have h4 := le_add (a := b.y1) hm
  refine ⟨?_, ?_, sub_sat' .., sub_sat' .., add_sat' .., add_sat' ..⟩ <;> simp only [Bx.mar] <;> omega
theorem Bx.exp_not {b : Bx} {m : Int} (h : b.val = false) : b.exp m = Bx.zero := by simp [Bx.exp, h]
theorem Bx.exp_pos {b : Bx} {m : Int} (h : b.val = true) (hm : 0 ≤ m) : b.exp m = b.mar m := by
  simp [Bx.exp, h, Bx.val_iff.2 (Bx.mar_ok (Bx.val_iff.1 h) hm)]
theorem Bx.exp_con {b : Bx} {m : Int} (h : b.val = true) (hm : 0 ≤ m) : (b.exp m).con b = true := by
  rw [Bx.exp_pos h hm]
  have hb := Bx.val_iff.1 h
  refine Bx.con_iff.2 ⟨Bx.mar_ok hb hm, hb, ?_⟩
  obtain ⟨b1, b2, b3, b4, b5, b6⟩ := hb
  have h1 := sub_le (a := b.x0) hm; have h2 := sub_le (a := b.y0) hm; have h3 := le_add (a := b.x1) hm; have h4 := le_add (a := b.y1) hm
  simp only [Bx.mar]; omega
theorem Bx.con_hp {a b : Bx} (h : a.con b = true) : b.hp ≤ a.hp := by
  obtain ⟨h1, h2, h3, h4, h5, h6⟩ := Bx.con_iff.1 h
  have va := Bx.val_iff.2 h1; have vb := Bx.val_iff.2 h2
  simp only [Bx.hp, va, vb, if_true]
  obtain ⟨a1, a2, a3, a4, a5, a6⟩ := h1
  obtain ⟨b1, b2, b3, b4, b5, b6⟩ := h2
  unfold add sub
  simp only [sat_sat]
  rw [← a3, ← a4, ← a5, ← a6, ← b3, ← b4, ← b5, ← b6]
  have m1 := sat_mono (a := b.x1 - b.x0) (b := a.x1 - a.x0) (by omega)
  have m2 := sat_mono (a := b.y1 - b.y0) (b := a.y1 - a.y0) (by omega)
  exact sat_mono (by omega)
/-- A negative margin: the zero box, or a box inside. -/
theorem Bx.exp_neg {b : Bx} {m : Int} (h : b.val = true) (hm : m < 0) : b.exp m = Bx.zero ∨ b.con (b.exp m) = true := by
  by_cases hv : (b.mar m).val = true
  · right
    rw [show b.exp m = b.mar m from by simp [Bx.exp, h, hv]]
    have hb := Bx.val_iff.1 h
    refine Bx.con_iff.2 ⟨hb, Bx.val_iff.1 hv, ?_⟩
    obtain ⟨b1, b2, b3, b4, b5, b6⟩ := hb
    have h1 := le_sub (a := b.x0) (m := m) (by omega); have h2 := le_sub (a := b.y0) (m := m) (by omega); have h3 := add_le (a := b.x1) (m := m) (by omega); have h4 := add_le (a := b.y1) (m := m) (by omega)
    simp only [Bx.mar]; omega
  · left; simp [Bx.exp, hv]

theorem Bx.not_zero {b : Bx} (h : ¬ b = Bx.zero) : (b.x0 == 0) = false ∨ ((b.x0 == 0) = true ∧ (b.y0 == 0) = false) ∨ ((b.x0 == 0) = true ∧ (b.y0 == 0) = true ∧ (b.x1 == 0) = false) ∨ ((b.x0 == 0) = true ∧ (b.y0 == 0) = true ∧ (b.x1 == 0) = true ∧ (b.y1 == 0) = false) := by
  simp only [beq_iff_eq, beq_eq_false_iff_ne, ne_eq]
  by_cases h0 : b.x0 = 0
  · by_cases h1 : b.y0 = 0
    · by_cases h2 : b.x1 = 0
      · by_cases h3 : b.y1 = 0
        · exact absurd (by cases b; simp only at *; subst h0 h1 h2 h3; rfl) h
        · exact .inr (.inr (.inr ⟨h0, h1, h2, h3⟩))
      · exact .inr (.inr (.inl ⟨h0, h1, h2⟩))
    · exact .inr (.inl ⟨h0, h1⟩)
  · exact .inl h0

/-! ### Segments -/
theorem lin_low {A y0 y1 y : Int} (h0 : y0 ≤ y) (h1 : y ≤ y1) : A * y0 ≤ A * y ∨ A * y1 ≤ A * y := by
  rcases Int.le_total 0 A with h | h
  · exact .inl (Int.mul_le_mul_of_nonneg_left h0 h)
  · exact .inr (Int.mul_le_mul_of_nonpos_left h h1)
theorem sgn_one {n : Int} : sgn n = 1 ↔ 0 < n := by unfold sgn; split <;> (try split) <;> omega
theorem sgn_neg_one {n : Int} : sgn n = -1 ↔ n < 0 := by unfold sgn; split <;> (try split) <;> omega
theorem Bx.count_all (b : Bx) (fx fy tx ty s : Int) : b.count fx fy tx ty s 4 < 4 ↔ ¬ ∀ k, k < 4 → b.side fx fy tx ty k = s := by
  constructor
  · intro h hall
    have h0 := hall 0 (by omega); have h1 := hall 1 (by omega); have h2 := hall 2 (by omega); have h3 := hall 3 (by omega)
    simp only [Bx.count, h0, h1, h2, h3, if_true] at h
    omega
  · intro h
    by_cases h0 : b.side fx fy tx ty 0 = s <;> by_cases h1 : b.side fx fy tx ty 1 = s <;> by_cases h2 : b.side fx fy tx ty 2 = s <;> by_cases h3 : b.side fx fy tx ty 3 = s
    · exfalso; apply h; intro k hk
      match k, hk with
      | 0, _ => exact h0
      | 1, _ => exact h1
      | 2, _ => exact h2
      | 3, _ => exact h3
      | n + 4, h => omega
    all_goals (simp only [Bx.count, h0, h1, h2, h3, if_true, if_false]; omega)
theorem Bx.seg_iff {b : Bx} {fx fy tx ty : Int} : b.seg fx fy tx ty = true ↔ b.ovl (Bx.two fx fy tx ty) = true ∧ (¬ ∀ k, k < 4 → b.side fx fy tx ty k = 1) ∧ ¬ ∀ k, k < 4 → b.side fx fy tx ty k = -1 := by
  unfold Bx.seg
  rw [Bool.and_eq_true, Bool.and_eq_true, decide_eq_true_eq, decide_eq_true_eq, Bx.count_all, Bx.count_all, and_assoc]
/-- Strictly to the left with all its corners, a box is to the left with all its points. -/
theorem Bx.left_all {b : Bx} {fx fy tx ty px py : Int} (hb : b.ok) (h : ∀ k, k < 4 → b.side fx fy tx ty k = 1) (hx0 : b.x0 ≤ sat px) (hx1 : sat px ≤ b.x1) (hy0 : b.y0 ≤ sat py) (hy1 : sat py ≤ b.y1) : 0 < det fx fy tx ty px py := by
  obtain ⟨_, _, s3, s4, s5, s6⟩ := hb
  have h0 := sgn_one.1 (h 0 (by omega)); have h1 := sgn_one.1 (h 1 (by omega)); have h2 := sgn_one.1 (h 2 (by omega)); have h3 := sgn_one.1 (h 3 (by omega))
  simp only [Bx.cx, Bx.cy, det] at h0 h1 h2 h3
  simp only [show ¬ ((0 : Nat) = 1 ∨ (0 : Nat) = 2) from by omega, show ¬ ((0 : Nat) = 2 ∨ (0 : Nat) = 3) from by omega, show ¬ ((1 : Nat) = 2 ∨ (1 : Nat) = 3) from by omega, show ¬ ((3 : Nat) = 1 ∨ (3 : Nat) = 2) from by omega, if_false, true_or, or_true, if_true] at h0 h1 h2 h3
  rw [← s3, ← s4] at h0
  rw [← s5, ← s4] at h1
  rw [← s5, ← s6] at h2
  rw [← s3, ← s6] at h3
  unfold det
  generalize sat tx - sat fx = A at *
  generalize sat ty - sat fy = B at *
  have e : ∀ u v : Int, A * (v - sat fy) - B * (u - sat fx) = A * v + -B * u + (B * sat fx - A * sat fy) := fun u v => by grind
  rw [e] at h0 h1 h2 h3 ⊢
  rcases lin_low (A := A) hy0 hy1 with ha | ha <;> rcases lin_low (A := -B) hx0 hx1 with hc | hc <;> omega
theorem side_swap (b : Bx) (fx fy tx ty : Int) (k : Nat) : b.side tx ty fx fy k = -b.side fx fy tx ty k := or_bac ..
theorem Bx.right_all {b : Bx} {fx fy tx ty px py : Int} (hb : b.ok) (h : ∀ k, k < 4 → b.side fx fy tx ty k = -1) (hx0 : b.x0 ≤ sat px) (hx1 : sat px ≤ b.x1) (hy0 : b.y0 ≤ sat py) (hy1 : sat py ≤ b.y1) : det fx fy tx ty px py < 0 := by
  have h' : ∀ k, k < 4 → b.side tx ty fx fy k = 1 := fun k hk => by rw [side_swap, h k hk]; rfl
  have := Bx.left_all hb h' hx0 hx1 hy0 hy1
  have e : det tx ty fx fy px py = -det fx fy tx ty px py := by unfold det; grind
  omega
theorem Bx.corner_in {a b : Bx} (h : a.con b = true) (k : Nat) : (a.x0 ≤ sat (b.cx k) ∧ sat (b.cx k) ≤ a.x1) ∧ a.y0 ≤ sat (b.cy k) ∧ sat (b.cy k) ≤ a.y1 := by
  obtain ⟨_, ⟨b1, b2, b3, b4, b5, b6⟩, h3, h4, h5, h6⟩ := Bx.con_iff.1 h
  unfold Bx.cx Bx.cy
  constructor
  · split
    · rw [← b5]; omega
    · rw [← b3]; omega
  · split
    · rw [← b6]; omega
    · rw [← b4]; omega
theorem Bx.con_seg {a b : Bx} {fx fy tx ty : Int} (h : a.con b = true) (hs : b.seg fx fy tx ty = true) : a.seg fx fy tx ty = true := by
  obtain ⟨h1, h2, h3⟩ := Bx.seg_iff.1 hs
  have ha := (Bx.con_iff.1 h).1
  refine Bx.seg_iff.2 ⟨Bx.con_ovl h h1, fun hall => h2 fun k hk => ?_, fun hall => h3 fun k hk => ?_⟩
  · obtain ⟨⟨p1, p2⟩, p3, p4⟩ := Bx.corner_in h k
    exact sgn_one.2 (Bx.left_all ha hall p1 p2 p3 p4)
  · obtain ⟨⟨p1, p2⟩, p3, p4⟩ := Bx.corner_in h k
    exact sgn_neg_one.2 (Bx.right_all ha hall p1 p2 p3 p4)
theorem two_swap (fx fy tx ty : Int) : Bx.two tx ty fx fy = Bx.two fx fy tx ty := by unfold Bx.two; simp only [Bx.mk.injEq]; omega
theorem Bx.seg_swap (b : Bx) (fx fy tx ty : Int) : b.seg tx ty fx fy = b.seg fx fy tx ty := by
  rw [Bool.eq_iff_iff, Bx.seg_iff, Bx.seg_iff, two_swap]
  have e1 : (∀ k, k < 4 → b.side tx ty fx fy k = 1) ↔ ∀ k, k < 4 → b.side fx fy tx ty k = -1 := by
    constructor <;> intro h k hk <;> (have h1 := h k hk; have h2 := side_swap b fx fy tx ty k; omega)
  have e2 : (∀ k, k < 4 → b.side tx ty fx fy k = -1) ↔ ∀ k, k < 4 → b.side fx fy tx ty k = 1 := by
    constructor <;> intro h k hk <;> (have h1 := h k hk; have h2 := side_swap b fx fy tx ty k; omega)
  rw [e1, e2]
  constructor <;> (rintro ⟨x1, x2, x3⟩; exact ⟨x1, x3, x2⟩)
theorem two_ok (fx fy tx ty : Int) : (Bx.two fx fy tx ty).ok :=
  ⟨by simp only [Bx.two]; omega, by simp only [Bx.two]; omega, (sat_min (sat_sat _).symm (sat_sat _).symm).symm, (sat_min (sat_sat _).symm (sat_sat _).symm).symm, (sat_max (sat_sat _).symm (sat_sat _).symm).symm, (sat_max (sat_sat _).symm (sat_sat _).symm).symm⟩
theorem det_from (fx fy tx ty : Int) : det fx fy tx ty fx fy = 0 := by unfold det; grind
theorem Bx.seg_from {b : Bx} {fx fy : Int} (tx ty : Int) (h : b.has fx fy = true) : b.seg fx fy tx ty = true := by
  obtain ⟨h1, h2, h3, h4, h5⟩ := Bx.has_iff.1 h
  refine Bx.seg_iff.2 ⟨Bx.ovl_iff.2 ⟨h1, two_ok .., ?_⟩, fun hall => ?_, fun hall => ?_⟩
  · simp only [Bx.two]; omega
  · have := Bx.left_all h1 hall h2 h3 h4 h5; rw [det_from] at this; omega
  · have := Bx.right_all h1 hall h2 h3 h4 h5; rw [det_from] at this; omega
theorem Bx.seg_to {b : Bx} {tx ty : Int} (fx fy : Int) (h : b.has tx ty = true) : b.seg fx fy tx ty = true := by rw [← Bx.seg_swap]; exact Bx.seg_from fx fy h
theorem Bx.seg_point (b : Bx) (fx fy : Int) : b.seg fx fy fx fy = b.has fx fy := by
  rw [Bool.eq_iff_iff]
  constructor
  · intro h
    obtain ⟨h1, _⟩ := Bx.seg_iff.1 h
    obtain ⟨o1, _, o3, o4, o5, o6⟩ := Bx.ovl_iff.1 h1
    simp only [Bx.two] at o3 o4 o5 o6
    exact Bx.has_iff.2 ⟨o1, by omega, by omega, by omega, by omega⟩
  · exact Bx.seg_from fx fy
theorem Bx.seg_ends {b : Bx} {fx fy tx ty : Int} (h : b.seg fx fy tx ty = false) : b.has fx fy = false ∧ b.has tx ty = false := by
  constructor
  · cases hh : b.has fx fy with
    | false => rfl
    | true => rw [Bx.seg_from tx ty hh] at h; cases h
  · cases hh : b.has tx ty with
    | false => rfl
    | true => rw [Bx.seg_to fx fy hh] at h; cases h

end Go.Proofs.Ytconfbdnhalmoaa.Fx
