/- Plain mathematics of chapter 16: a circle touches a shape that contains its center, and a round shape as its distance says. No program is imported. -/
import Derived.Test.YtiecpebckmihgaaGreatMnM
set_option linter.unusedVariables false
namespace Go.Proofs.YtiecpebckmihgaaGreat
open Fx

theorem ro_small {a : Int} {p : Pt} (hp : inrP p) : (-1483008 ≤ rotx (rotc a) (rots a) p.1 p.2 ∧ rotx (rotc a) (rots a) p.1 p.2 ≤ 1483008) ∧ -1483008 ≤ roty (rotc a) (rots a) p.1 p.2 ∧ roty (rotc a) (rots a) p.1 p.2 ≤ 1483008 := by
  have hr := rot_le a
  have hD := rot_unit_hi a
  unfold inrP at hp
  obtain ⟨⟨e1, h1, b1, b1'⟩, e2, h2, b2, b2'⟩ := rot_near (c := rotc a) (s := rots a) (x := p.1) (y := p.2) ⟨hr.1, hr.2.1⟩ ⟨hr.2.2.1, hr.2.2.2⟩ ⟨hp.1, hp.2.1⟩ ⟨hp.2.2.1, hp.2.2.2⟩
  obtain ⟨C, Sn, c0, s0, c1, c2, s1, s2, hs⟩ := sum_abs (c := rotc a) (s := rots a) (by omega)
  have p1 := mul_between c1 c2 hp.1 hp.2.1
  have p2 := mul_between s1 s2 hp.2.2.1 hp.2.2.2
  have p3 := mul_between s1 s2 hp.1 hp.2.1
  have p4 := mul_between c1 c2 hp.2.2.1 hp.2.2.2
  clear hD hr
  omega

theorem tr_dif {px py a : Int} (hv : tval px py a = true) {u v : Pt} (hu : inrP u) (hw : inrP v) : ∃ e f, 65536 * ((tr px py a u).1 - (tr px py a v).1) = rotc a * (u.1 - v.1) - rots a * (u.2 - v.2) + e ∧ 65536 * ((tr px py a u).2 - (tr px py a v).2) = rots a * (u.1 - v.1) + rotc a * (u.2 - v.2) + f ∧ (-65536 ≤ e ∧ e ≤ 65536) ∧ (-65536 ≤ f ∧ f ≤ 65536) ∧ (-2966016 ≤ (tr px py a u).1 - (tr px py a v).1 ∧ (tr px py a u).1 - (tr px py a v).1 ≤ 2966016) ∧ -2966016 ≤ (tr px py a u).2 - (tr px py a v).2 ∧ (tr px py a u).2 - (tr px py a v).2 ≤ 2966016 := by
  obtain ⟨_, _, x1, y1⟩ := tr_in hv hu
  obtain ⟨_, _, x2, y2⟩ := tr_in hv hw
  have r1 := ro_small (a := a) hu
  have r2 := ro_small (a := a) hw
  have hr := rot_le a
  unfold inrP at hu hw
  obtain ⟨⟨e1, h1, b1⟩, e2, h2, b2⟩ := rot_near (c := rotc a) (s := rots a) (x := u.1) (y := u.2) ⟨hr.1, hr.2.1⟩ ⟨hr.2.2.1, hr.2.2.2⟩ ⟨hu.1, hu.2.1⟩ ⟨hu.2.2.1, hu.2.2.2⟩
  obtain ⟨⟨f1, h3, b3⟩, f2, h4, b4⟩ := rot_near (c := rotc a) (s := rots a) (x := v.1) (y := v.2) ⟨hr.1, hr.2.1⟩ ⟨hr.2.2.1, hr.2.2.2⟩ ⟨hw.1, hw.2.1⟩ ⟨hw.2.2.1, hw.2.2.2⟩
  rw [x1, x2, y1, y2]
  refine ⟨e1 - f1, e2 - f2, ?_, ?_, by omega, by omega, by omega, by omega⟩
  · simp only [Int.mul_sub]; omega
  · simp only [Int.mul_sub]; omega

set_option maxHeartbeats 4000000 in
theorem pol_near {ps : List Pt} {px py a x y : Int} (hv : tval px py a = true) (hc : cvxP ps) (hA : 256 ≤ areaP ps) (hS : 4096 ≤ shortP ps) (hx : -268435456 ≤ x ∧ x ≤ 268435456) (hy : -268435456 ≤ y ∧ y ≤ 268435456)
    (hp : polin (ps.map (tr px py a)) x y = true) (hg : 0 < (msep (ps.map (tr px py a)) [(x, y)]).2) : ∃ k, dist2 (cpE (ps.map (tr px py a)) x y k).1 (cpE (ps.map (tr px py a)) x y k).2 x y < 9437184 := by
  have h3 := hc.1
  have h0 : 0 < ps.length := by omega
  have hlen : (ps.map (tr px py a)).length = ps.length := List.length_map ..
  have hin := hc.2.2.1
  have hm : ∀ i, hp' (ps.map (tr px py a)) i = tr px py a (hp' ps i) := fun i => hp_map _ h0 i
  have hnear : ∀ i, nearP (hp' (ps.map (tr px py a)) i) := fun i => by rw [hm]; exact tr_near hv (hin _ (hp_mem i h0))
  have sx : sat x = x := sat_id (by omega) (by omega)
  have sy : sat y = y := sat_id (by omega) (by omega)
  have dif : ∀ i j, _ := fun i j => tr_dif hv (hin _ (hp_mem i h0)) (hin _ (hp_mem j h0))
  have hlin := fun A B => pol_lin hv hc hA hp A B
  rw [sx, sy] at hlin
  have hk : ∀ i, 0 ≤ ((hp' (ps.map (tr px py a)) (i + 1)).1 - (hp' (ps.map (tr px py a)) i).1) * (y - (hp' (ps.map (tr px py a)) i).2) - ((hp' (ps.map (tr px py a)) (i + 1)).2 - (hp' (ps.map (tr px py a)) i).2) * (x - (hp' (ps.map (tr px py a)) i).1) := fun i => by
    have h1 := of_decide_eq_true hp (i % (ps.map (tr px py a)).length) (Nat.mod_lt _ (by omega))
    rw [(hp_mod1 _ i).1, (hp_mod1 _ i).2] at h1
    have n1 := hnear i
    have n2 := hnear (i + 1)
    unfold nearP at n1 n2
    unfold or3 orient det at h1
    rw [sat_id (x := (hp' (ps.map (tr px py a)) i).1) (by omega) (by omega), sat_id (x := (hp' (ps.map (tr px py a)) i).2) (by omega) (by omega), sat_id (x := (hp' (ps.map (tr px py a)) (i + 1)).1) (by omega) (by omega), sat_id (x := (hp' (ps.map (tr px py a)) (i + 1)).2) (by omega) (by omega)] at h1
    have h2 := mt sgn_neg_one.2 h1
    dsimp only at h2
    rw [sx, sy] at h2
    omega
  obtain ⟨j, hj, hJ, -, -⟩ := msep_spec (a := ps.map (tr px py a)) (b := [(x, y)]) (by omega) (by simp)
  rw [hJ] at hg
  have hg' : 0 < sepD (ps.map (tr px py a)) j [(x, y)] 0 := hg
  rw [hlen] at hj
  unfold sepD eNor at hg'
  rw [if_pos ⟨by omega, by omega, by omega⟩] at hg'
  rw [Int.toNat_natCast, vlen_turn] at hg'
  have eq0 : hp' [(x, y)] 0 = (x, y) := rfl
  rw [eq0] at hg'
  unfold eX eY at hg'
  have cv := fun i => cvx_left hc hj i
  have hedge : 16777216 ≤ ((hp' ps (j + 1)).1 - (hp' ps j).1) * ((hp' ps (j + 1)).1 - (hp' ps j).1) + ((hp' ps (j + 1)).2 - (hp' ps j).2) * ((hp' ps (j + 1)).2 - (hp' ps j).2) := by
    unfold shortP at hS
    rw [if_pos (cvx_iff.2 hc)] at hS
    have h1 := (shr_le ps ps.length).2 j hj
    have i1 := hin _ (hp_mem j h0)
    have i2 := hin _ (hp_mem (j + 1) h0)
    unfold inrP at i1 i2
    unfold edg at h1
    rw [sub_in (by omega) (by omega) (by omega), sub_in (by omega) (by omega) (by omega)] at h1
    obtain ⟨v0, _, v1, _⟩ := vlen_is ((hp' ps (j + 1)).1 - (hp' ps j).1) ((hp' ps (j + 1)).2 - (hp' ps j).2)
    rw [sat_id (x := (hp' ps (j + 1)).1 - (hp' ps j).1) (by omega) (by omega), sat_id (x := (hp' ps (j + 1)).2 - (hp' ps j).2) (by omega) (by omega)] at v1
    have := Int.mul_le_mul (a := 4096) (b := 4096) (c := vlen ((hp' ps (j + 1)).1 - (hp' ps j).1) ((hp' ps (j + 1)).2 - (hp' ps j).2)) (d := vlen ((hp' ps (j + 1)).1 - (hp' ps j).1) ((hp' ps (j + 1)).2 - (hp' ps j).2)) (by omega) (by omega) (by omega) (by omega)
    omega
  have hper : ∀ i, hp' (ps.map (tr px py a)) (i + ps.length) = hp' (ps.map (tr px py a)) i := fun i => by rw [← hlen]; exact hp_add _ _
  have hDc := rot_unit_lo a
  simp only [← hm] at dif
  generalize hL : ps.map (tr px py a) = L at *
  obtain ⟨e1, f1, d1, d2, b1, b2, g1, g2⟩ := dif (j + 1) j
  have hn : ∀ i, ((-285212673 ≤ (hp' L i).1 ∧ (hp' L i).1 ≤ 285212673) ∧ -285212673 ≤ (hp' L i).2 ∧ (hp' L i).2 ≤ 285212673) := fun i => hnear i
  have hu : ∀ i, (-2966016 ≤ x - (hp' L i).1 ∧ x - (hp' L i).1 ≤ 2966016) ∧ -2966016 ≤ y - (hp' L i).2 ∧ y - (hp' L i).2 ≤ 2966016 := fun i => by
    obtain ⟨i1, k1⟩ := hlin 1 0
    obtain ⟨i2, k2⟩ := hlin (-1) 0
    obtain ⟨i3, k3⟩ := hlin 0 1
    obtain ⟨i4, k4⟩ := hlin 0 (-1)
    obtain ⟨_, _, _, _, _, _, x1, _⟩ := dif i1 i
    obtain ⟨_, _, _, _, _, _, x2, _⟩ := dif i2 i
    obtain ⟨_, _, _, _, _, _, _, y3⟩ := dif i3 i
    obtain ⟨_, _, _, _, _, _, _, y4⟩ := dif i4 i
    omega
  have uj := hu j
  have nj := hn j
  have nj1 := hn (j + 1)
  dsimp only at hg'
  rw [sub_in (a := (hp' L (j + 1)).1) (b := (hp' L j).1) (by omega) (by omega) (by omega), sub_in (a := (hp' L (j + 1)).2) (b := (hp' L j).2) (by omega) (by omega) (by omega), sub_in (a := x) (b := (hp' L j).1) (by omega) (by omega) (by omega), sub_in (a := y) (b := (hp' L j).2) (by omega) (by omega) (by omega)] at hg'
  have rl := rl_len d1 d2 b1 b2 (by omega) hedge
  have hsp : (hp' L (j + 1)).1 - (hp' L j).1 = (hp' L (j + 1)).1 - (hp' L j).1 := rfl
  obtain ⟨p, hP⟩ : ∃ p, (hp' L (j + 1)).1 - (hp' L j).1 = p := ⟨_, rfl⟩
  obtain ⟨q, hQ⟩ : ∃ q, (hp' L (j + 1)).2 - (hp' L j).2 = q := ⟨_, rfl⟩
  rw [hP] at d1 g1 hg' rl
  rw [hQ] at d2 g2 hg' rl
  obtain ⟨v0, _, v1, v2⟩ := vlen_is p q
  rw [sat_id (x := p) (by omega) (by omega), sat_id (x := q) (by omega) (by omega)] at v1 v2
  obtain ⟨l, hl⟩ : ∃ l, vlen p q = l := ⟨_, rfl⟩
  rw [hl] at v0 v1 v2 hg'
  have sp := sq_nn p
  have sq := sq_nn q
  have lp := abs_le_of_sq (u := p) (R := l) (by omega) v0
  have lq := abs_le_of_sq (u := q) (R := l) (by omega) v0
  have l4 : 4000 ≤ l := by
    false_or_by_contra
    have := Int.mul_le_mul (a := l + 1) (b := l + 1) (c := 4000) (d := 4000) (by omega) (by omega) (by omega) (by omega)
    omega
  have l8 : l ≤ 8000000 := by
    false_or_by_contra
    have := Int.mul_le_mul (a := 8000001) (b := 8000001) (c := l) (d := l) (by omega) (by omega) (by omega) (by omega)
    have m1 := mul_between g1.1 g1.2 g1.1 g1.2
    have m2 := mul_between g2.1 g2.2 g2.1 g2.2
    omega
  have dn := dot_near (p := p) (q := q) (l := l) (by omega) l8 lp lq uj.1 uj.2 hg'
  have hF : ∀ i, q * ((hp' L i).1 - x) - p * ((hp' L i).2 - y) ≤ 1532 * l := fun i => by
    obtain ⟨e3, f3, d3, d4, b3, b4, g3, g4⟩ := dif i j
    have hr := rot_det d1 d2 d3 d4 b1 b2 b3 b4 lp lq g3 g4 l4 (cv i)
    have id : q * ((hp' L i).1 - x) - p * ((hp' L i).2 - y) = -(p * ((hp' L i).2 - (hp' L j).2) - q * ((hp' L i).1 - (hp' L j).1)) - (q * (x - (hp' L j).1) - p * (y - (hp' L j).2)) := by grind
    rw [id]; omega
  obtain ⟨i1, k1⟩ := hlin p q
  obtain ⟨i2, k2⟩ := hlin (-p) (-q)
  have k2' : 0 ≤ p * ((hp' L i2).1 - x) + q * ((hp' L i2).2 - y) := by rw [Int.neg_mul, Int.neg_mul] at k2; omega
  have hpq : (p * ((hp' L (j + 1)).1 - x) + q * ((hp' L (j + 1)).2 - y)) - (p * ((hp' L j).1 - x) + q * ((hp' L j).2 - y)) = p * p + q * q := by
    have : (p * ((hp' L (j + 1)).1 - x) + q * ((hp' L (j + 1)).2 - y)) - (p * ((hp' L j).1 - x) + q * ((hp' L j).2 - y)) = p * ((hp' L (j + 1)).1 - (hp' L j).1) + q * ((hp' L (j + 1)).2 - (hp' L j).2) := by grind
    rw [this, hP, hQ]
  have hcross : ∃ k, p * ((hp' L k).1 - x) + q * ((hp' L k).2 - y) ≤ 0 ∧ 0 ≤ p * ((hp' L (k + 1)).1 - x) + q * ((hp' L (k + 1)).2 - y) ∧ p * ((hp' L k).1 - x) + q * ((hp' L k).2 - y) < p * ((hp' L (k + 1)).1 - x) + q * ((hp' L (k + 1)).2 - y) := by
    by_cases c : 0 < p * ((hp' L (j + 1)).1 - x) + q * ((hp' L (j + 1)).2 - y)
    · obtain ⟨k, a1, a2⟩ := leaves h0 (P := fun i => p * ((hp' L i).1 - x) + q * ((hp' L i).2 - y) ≤ 0) (fun i => by rw [hper]) k1 (Int.not_le.2 c)
      exact ⟨k, a1, by omega, by omega⟩
    · obtain ⟨k, a1, a2⟩ := leaves h0 (P := fun i => p * ((hp' L i).1 - x) + q * ((hp' L i).2 - y) < 0) (fun i => by rw [hper]) (i := j) (j := i2) (by omega) (by omega)
      exact ⟨k, by omega, by omega, by omega⟩
  obtain ⟨k, c1, c2, c3⟩ := hcross
  have nk := hn k
  have nk1 := hn (k + 1)
  have uk := hu k
  have kk := hk k
  have F1 := hF k
  have F2 := hF (k + 1)
  obtain ⟨_, _, _, _, _, _, w1b, w2b⟩ := dif (k + 1) k
  have eα : p * (x - (hp' L k).1) + q * (y - (hp' L k).2) = -(p * ((hp' L k).1 - x) + q * ((hp' L k).2 - y)) := by grind
  have eS : p * ((hp' L (k + 1)).1 - (hp' L k).1) + q * ((hp' L (k + 1)).2 - (hp' L k).2) = (p * ((hp' L (k + 1)).1 - x) + q * ((hp' L (k + 1)).2 - y)) - (p * ((hp' L k).1 - x) + q * ((hp' L k).2 - y)) := by grind
  have ez : (p * (x - (hp' L k).1) + q * (y - (hp' L k).2)) * (q * ((hp' L (k + 1)).1 - (hp' L k).1) - p * ((hp' L (k + 1)).2 - (hp' L k).2)) - (p * ((hp' L (k + 1)).1 - (hp' L k).1) + q * ((hp' L (k + 1)).2 - (hp' L k).2)) * (q * (x - (hp' L k).1) - p * (y - (hp' L k).2)) = (p * p + q * q) * (((hp' L (k + 1)).1 - (hp' L k).1) * (y - (hp' L k).2) - ((hp' L (k + 1)).2 - (hp' L k).2) * (x - (hp' L k).1)) := by grind
  have ez2 : (p * (x - (hp' L k).1) + q * (y - (hp' L k).2)) * (q * ((hp' L (k + 1)).1 - (hp' L k).1) - p * ((hp' L (k + 1)).2 - (hp' L k).2)) - (p * ((hp' L (k + 1)).1 - (hp' L k).1) + q * ((hp' L (k + 1)).2 - (hp' L k).2)) * (q * (x - (hp' L k).1) - p * (y - (hp' L k).2)) = (p * (x - (hp' L k).1) + q * (y - (hp' L k).2)) * (q * ((hp' L (k + 1)).1 - x) - p * ((hp' L (k + 1)).2 - y)) + ((p * ((hp' L (k + 1)).1 - (hp' L k).1) + q * ((hp' L (k + 1)).2 - (hp' L k).2)) - (p * (x - (hp' L k).1) + q * (y - (hp' L k).2))) * (q * ((hp' L k).1 - x) - p * ((hp' L k).2 - y)) := by grind
  refine ⟨k, cp_close (R := 0) (p := p) (q := q) (l := l) (by omega) (by omega) (by omega) (by omega) v0 v1 (by omega) (by omega) (by omega) (by omega) ?_ ?_⟩
  · have := Int.mul_nonneg (show 0 ≤ p * p + q * q by omega) kk
    omega
  · rw [ez2]
    have ha : 0 ≤ p * (x - (hp' L k).1) + q * (y - (hp' L k).2) := by omega
    have hb : 0 ≤ (p * ((hp' L (k + 1)).1 - (hp' L k).1) + q * ((hp' L (k + 1)).2 - (hp' L k).2)) - (p * (x - (hp' L k).1) + q * (y - (hp' L k).2)) := by omega
    generalize p * ((hp' L (k + 1)).1 - (hp' L k).1) + q * ((hp' L (k + 1)).2 - (hp' L k).2) = S at *
    generalize p * (x - (hp' L k).1) + q * (y - (hp' L k).2) = α at *
    have m1 := Int.mul_le_mul_of_nonneg_left F2 ha
    have m2 := Int.mul_le_mul_of_nonneg_left F1 hb
    have m3 : α * (1532 * l) + (S - α) * (1532 * l) = S * (1532 * l) := by grind
    have m4 : S * (1532 * l) ≤ S * (1600 * l) := Int.mul_le_mul_of_nonneg_left (by omega) (by omega)
    omega

theorem clo_le (L : List Pt) (x y : Int) : ∀ n k, k ≤ n → dist2 (cloE L x y n).1 (cloE L x y n).2 x y ≤ dist2 (cpE L x y k).1 (cpE L x y k).2 x y
  | 0, k, h => by obtain rfl : k = 0 := by omega
                  exact Int.le_refl _
  | n + 1, k, h => by
    have ih := clo_le L x y n
    have e : cloE L x y (n + 1) = if dist2 (cpE L x y (n + 1)).1 (cpE L x y (n + 1)).2 x y < dist2 (cloE L x y n).1 (cloE L x y n).2 x y then cpE L x y (n + 1) else cloE L x y n := rfl
    rw [e]
    split
    · rename_i c
      rcases (by omega : k ≤ n ∨ k = n + 1) with d | rfl
      · have := ih k d; omega
      · exact Int.le_refl _
    · rename_i c
      rcases (by omega : k ≤ n ∨ k = n + 1) with d | rfl
      · exact ih k d
      · omega
theorem cpE_mod (L : List Pt) (x y : Int) (k : Nat) : cpE L x y (k % L.length) = cpE L x y k := by
  unfold cpE; rw [(hp_mod1 L k).1, (hp_mod1 L k).2]

theorem sub_small {v r : Int} (h0 : v ≤ 3071) (h1 : 2048 ≤ r) : sub v r ≤ 1024 := by
  unfold sub sat
  split <;> (try split) <;> (try split) <;> (try split) <;> (try split) <;> (try split) <;> omega

theorem pol_touch {ps : List Pt} {px py a x y r : Int} (hv : tval px py a = true) (hc : cvxP ps) (hA : 256 ≤ areaP ps) (hS : 4096 ≤ shortP ps) (hx : -268435456 ≤ x ∧ x ≤ 268435456) (hy : -268435456 ≤ y ∧ y ≤ 268435456) (hr : 2048 ≤ r)
    (hp : polin (ps.map (tr px py a)) x y = true) : ¬ 1024 < sub (polG (ps.map (tr px py a)) x y) r := by
  have hl0 : 0 < (ps.map (tr px py a)).length := by have := hc.1; rw [List.length_map]; omega
  unfold polG
  split
  · rename_i hg
    obtain ⟨k, hk⟩ := pol_near hv hc hA hS hx hy hp hg
    rw [← cpE_mod] at hk
    have h1 := clo_le (ps.map (tr px py a)) x y ((ps.map (tr px py a)).length - 1) (k % (ps.map (tr px py a)).length) (by have := Nat.mod_lt k hl0; omega)
    have h2 := Int.lt_of_le_of_lt h1 hk
    unfold polD
    generalize cloE (ps.map (tr px py a)) x y ((ps.map (tr px py a)).length - 1) = C at *
    dsimp only
    have h3 : vlen (sub x C.1) (sub y C.2) ≤ 3071 := by
      obtain ⟨v0, _, v1, _⟩ := vlen_is (sub x C.1) (sub y C.2)
      unfold dist2 at h2
      have s1 := sq_nn (sat x - sat C.1)
      have s2 := sq_nn (sat y - sat C.2)
      have b1 := abs_le_of_sq (u := sat x - sat C.1) (R := 3071) (by omega) (by omega)
      have b2 := abs_le_of_sq (u := sat y - sat C.2) (R := 3071) (by omega) (by omega)
      rw [sub_sat, sub_sat] at v1
      have q1 : sub x C.1 = sat x - sat C.1 := sat_id (by omega) (by omega)
      have q2 : sub y C.2 = sat y - sat C.2 := sat_id (by omega) (by omega)
      rw [q1, q2] at v1 v0 ⊢
      false_or_by_contra
      have := Int.mul_le_mul (a := 3072) (b := 3072) (c := vlen (sat x - sat C.1) (sat y - sat C.2)) (d := vlen (sat x - sat C.1) (sat y - sat C.2)) (by omega) (by omega) (by omega) (by omega)
      omega
    have := sub_small h3 hr
    omega
  · rename_i hg
    have := sub_small (v := (msep (ps.map (tr px py a)) [(x, y)]).2) (r := r) (by omega) hr
    omega

theorem vlen_dist (ax ay bx b_y : Int) : sat (vlen (sub bx ax) (sub b_y ay)) = sat (isq (dist2 ax ay bx b_y)) := by
  have hd := dist2_in ax ay bx b_y
  unfold dist2 at hd ⊢
  generalize hu : sat bx - sat ax = u at *
  generalize hw : sat b_y - sat ay = v at *
  have e1 : sub bx ax = sat u := by unfold sub; rw [hu]
  have e2 : sub b_y ay = sat v := by unfold sub; rw [hw]
  rw [e1, e2]
  unfold vlen
  rw [sat_sat, sat_sat]
  have big : ∀ z n : Int, (536870911 < z ∨ z < -536870911) → z * z ≤ n → n ≤ 4611686018427387904 → sat (isq n) = 536870911 := fun z n hz hn h2 => by
    have h1 : (536870911 : Int) * 536870911 ≤ z * z := by
      rcases hz with h | h
      · exact Int.mul_le_mul (by omega) (by omega) (by omega) (by omega)
      · have := Int.mul_le_mul (a := 536870911) (b := 536870911) (c := -z) (d := -z) (by omega) (by omega) (by omega) (by omega)
        rw [Int.neg_mul_neg] at this; exact this
    obtain ⟨a0, a1, a2⟩ := isq_is (n := n) (by omega) h2
    have : 536870911 ≤ isq n := by
      false_or_by_contra
      have := Int.mul_le_mul (a := isq n + 1) (b := isq n + 1) (c := 536870911) (d := 536870911) (by omega) (by omega) (by omega) (by omega)
      omega
    unfold sat; split <;> (try split) <;> omega
  have bigs : ∀ z n : Int, (536870911 < z ∨ z < -536870911) → sat z * sat z ≤ n → n ≤ 4611686018427387904 → sat (isq n) = 536870911 := fun z n hz hn h2 => by
    have h1 : (536870911 : Int) * 536870911 ≤ sat z * sat z := by
      unfold sat; rcases hz with h | h
      · rw [if_pos h]; exact Int.le_refl _
      · rw [if_neg (by omega), if_pos h]; decide
    obtain ⟨a0, a1, a2⟩ := isq_is (n := n) (by omega) h2
    have : 536870911 ≤ isq n := by
      false_or_by_contra
      have := Int.mul_le_mul (a := isq n + 1) (b := isq n + 1) (c := 536870911) (d := 536870911) (by omega) (by omega) (by omega) (by omega)
      omega
    unfold sat; split <;> (try split) <;> omega
  have s1 := sq_nn u; have s2 := sq_nn v
  have t1 := sq_nn (sat u); have t2 := sq_nn (sat v)
  have m1 := satmul u u; have m2 := satmul v v
  by_cases c1 : 536870911 < u ∨ u < -536870911
  · rw [big u _ c1 (by omega) hd.2, bigs u _ c1 (by omega) (by omega)]
  · by_cases c2 : 536870911 < v ∨ v < -536870911
    · rw [big v _ c2 (by omega) hd.2, bigs v _ c2 (by omega) (by omega)]
    · rw [sat_id (x := u) (by omega) (by omega), sat_id (x := v) (by omega) (by omega)]
theorem seg_dist (ax ay bx b_y cx cy dx dy : Int) : sat (vlen (segD (cps ax ay bx b_y cx cy dx dy)).1 (segD (cps ax ay bx b_y cx cy dx dy)).2) = sdist ax ay bx b_y cx cy dx dy := by
  unfold sdist
  by_cases h : isct ax ay bx b_y cx cy dx dy = true
  · rw [if_pos h]
    unfold cps segD; rw [if_pos h]; dsimp only
    rw [sub_self, sub_self, (vlen_zero 0 0).2 ⟨rfl, rfl⟩, sat_zero]
  · rw [if_neg h]
    unfold cps segD; rw [if_neg h]
    exact vlen_dist _ _ _ _
theorem sub_satl (a b : Int) : sub (sat a) b = sub a b := by unfold sub; rw [sat_sat]

theorem col_dist {K R r px py pa qx qy qa : Int} {ps : List Pt} (hV : valS K R ps = 0) (hr : 2048 ≤ r ∧ r ≤ 524288) (hp : tval px py pa = true) (hq : tval qx qy qa = true) :
    (conS K R ps px py pa qx qy = true → (col K R ps px py pa 1 r [(0, 0)] qx qy qa).l ≠ []) ∧
    (K ≠ 3 → ((col K R ps px py pa 1 r [(0, 0)] qx qy qa).l ≠ [] ↔ sub (sub (sdist (hp' (ps.map (tr px py pa)) 0).1 (hp' (ps.map (tr px py pa)) 0).2 (hp' (ps.map (tr px py pa)) (ps.length - 1)).1 (hp' (ps.map (tr px py pa)) (ps.length - 1)).2 qx qy qx qy) R) r ≤ 1024)) := by
  obtain ⟨q1, q2, _⟩ := tval_iff.1 hq
  have e2 : [((0 : Int), (0 : Int))].map (tr qx qy qa) = [(qx, qy)] := by rw [List.map_cons, List.map_nil, tr_zero, sat_id (x := qx) (by omega) (by omega), sat_id (x := qy) (by omega) (by omega)]
  have e0 : (col K R ps px py pa 1 r [(0, 0)] qx qy qa).l = (colC K R (ps.map (tr px py pa)) 1 r [(qx, qy)]).l := by
    unfold col; rw [if_pos ⟨hV, valS_circle hr.1 hr.2⟩, nz_l, e2]
  have one : ∀ nx ny X Y g, (oneM nx ny X Y g).l ≠ [] ↔ ¬ 1024 < g := fun nx ny X Y g => by
    unfold oneM; dsimp only
    split
    · rename_i h; exact ⟨fun k => absurd rfl k, fun k => absurd h k⟩
    · rename_i h; exact ⟨fun _ => h, fun _ => by simp⟩
  rw [e0]
  have hK : (1 ≤ K ∧ K ≤ 3) := (valS_zero.1 hV).1
  have hl := val_len hV
  have hrad := val_rad hV
  have lm : (ps.map (tr px py pa)).length = ps.length := List.length_map ..
  have round : K ≠ 3 → ((colC K R (ps.map (tr px py pa)) 1 r [(qx, qy)]).l ≠ [] ↔ sub (sub (sdist (hp' (ps.map (tr px py pa)) 0).1 (hp' (ps.map (tr px py pa)) 0).2 (hp' (ps.map (tr px py pa)) (ps.length - 1)).1 (hp' (ps.map (tr px py pa)) (ps.length - 1)).2 qx qy qx qy) R) r ≤ 1024) := fun k3 => by
    unfold colC; rw [if_pos ⟨k3, by decide⟩, lm]
    unfold segM
    rw [one]
    unfold segG
    rw [← seg_dist, sub_satl]
    exact Int.not_lt
  refine ⟨fun hcon => ?_, round⟩
  unfold conS at hcon
  rw [Bool.and_eq_true] at hcon
  have hcon := hcon.2
  unfold conC at hcon
  split at hcon
  · rename_i k1
    rw [round (by omega)]
    have h1 := of_decide_eq_true hcon
    have n1 : ps.length = 1 := hl.2.2.1 k1
    rw [n1, ← seg_dist, cps_pts, sub_satl]
    have h2 := sub_small (v := sub (vlen (sub qx (hp' (ps.map (tr px py pa)) 0).1) (sub qy (hp' (ps.map (tr px py pa)) 0).2)) R) (r := r) (by
      have := (vlen_is (sub qx (hp' (ps.map (tr px py pa)) 0).1) (sub qy (hp' (ps.map (tr px py pa)) 0).2)).1
      generalize vlen (sub qx (hp' (ps.map (tr px py pa)) 0).1) (sub qy (hp' (ps.map (tr px py pa)) 0).2) = v at *
      unfold sub; rw [sat_id (x := v) (by omega) (by omega), sat_id (x := R) (by omega) (by omega), sat_id (by omega) (by omega)]; omega) hr.1
    exact h2
  · split at hcon
    · rename_i k1 k2
      rw [round (by omega)]
      have h1 := of_decide_eq_true hcon
      have n1 : ps.length = 2 := hl.2.2.2.1 k2
      rw [sdist_swap] at h1
      rw [n1]
      have h3 := sdist_in (hp' (ps.map (tr px py pa)) 0).1 (hp' (ps.map (tr px py pa)) 0).2 (hp' (ps.map (tr px py pa)) 1).1 (hp' (ps.map (tr px py pa)) 1).2 qx qy qx qy
      show sub (sub (sdist (hp' (ps.map (tr px py pa)) 0).1 (hp' (ps.map (tr px py pa)) 0).2 (hp' (ps.map (tr px py pa)) 1).1 (hp' (ps.map (tr px py pa)) 1).2 qx qy qx qy) R) r ≤ 1024
      generalize sdist (hp' (ps.map (tr px py pa)) 0).1 (hp' (ps.map (tr px py pa)) 0).2 (hp' (ps.map (tr px py pa)) 1).1 (hp' (ps.map (tr px py pa)) 1).2 qx qy qx qy = v at *
      exact sub_small (by unfold sub; rw [sat_id (x := v) (by omega) (by omega), sat_id (x := R) (by omega) (by omega), sat_id (by omega) (by omega)]; omega) hr.1
    · rename_i k1 k2
      have k3 : K = 3 := by omega
      unfold colC; rw [if_neg (by omega), if_pos rfl]
      unfold polM
      rw [one]
      obtain ⟨_, _, _, _, _, hpb⟩ := valS_zero.1 hV
      unfold polbad at hpb
      simp only [k3, decide_true, Bool.true_and, Bool.or_eq_false_iff, Bool.not_eq_false', decide_eq_false_iff_not] at hpb
      exact pol_touch hp (cvx_iff.1 hpb.1.1) (by omega) (by omega) q1 q2 hr.1 hcon

end Go.Proofs.YtiecpebckmihgaaGreat
