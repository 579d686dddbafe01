/- Plain mathematics of chapter 17: the distance of shapes. No program is imported. -/
import Derived.Test.YtipcbcngedpmkaaSh1
set_option linter.unusedVariables false
namespace Go.Proofs.Ytipcbcngedpmkaa
open Fx

/-- The smallest of s and the first values. -/
def mn1 (f : Nat → Int) (s : Int) : Nat → Int
  | 0 => s
  | k + 1 => min (mn1 f s k) (f k)
def mn2 (f : Nat → Nat → Int) (n : Nat) (s : Int) : Nat → Int
  | 0 => s
  | i + 1 => mn1 (f i) (mn2 f n s i) n
theorem mn1_le {f : Nat → Int} {s x : Int} : ∀ k, x ≤ mn1 f s k ↔ x ≤ s ∧ ∀ j, j < k → x ≤ f j
  | 0 => ⟨fun h => ⟨h, fun j hj => absurd hj (by omega)⟩, fun h => h.1⟩
  | k + 1 => by
    have ih := mn1_le (f := f) (s := s) (x := x) k
    show x ≤ min _ _ ↔ _
    constructor
    · intro h
      obtain ⟨h1, h2⟩ := ih.1 (by omega)
      refine ⟨h1, fun j hj => ?_⟩
      by_cases e : j = k
      · subst e; omega
      · exact h2 j (by omega)
    · rintro ⟨h1, h2⟩
      have := ih.2 ⟨h1, fun j hj => h2 j (by omega)⟩
      have := h2 k (by omega)
      omega
theorem mn2_le {f : Nat → Nat → Int} {n : Nat} {s x : Int} : ∀ i, x ≤ mn2 f n s i ↔ x ≤ s ∧ ∀ j, j < i → ∀ k, k < n → x ≤ f j k
  | 0 => ⟨fun h => ⟨h, fun j hj => absurd hj (by omega)⟩, fun h => h.1⟩
  | i + 1 => by
    have ih := mn2_le (f := f) (n := n) (s := s) (x := x) i
    show x ≤ mn1 (f i) (mn2 f n s i) n ↔ _
    rw [mn1_le, ih]
    constructor
    · rintro ⟨⟨h1, h2⟩, h3⟩
      refine ⟨h1, fun j hj => ?_⟩
      by_cases e : j = i
      · subst e; exact h3
      · exact h2 j (by omega)
    · rintro ⟨h1, h2⟩
      exact ⟨⟨h1, fun j hj => h2 j (by omega)⟩, h2 i (by omega)⟩
theorem mn2_one (f : Nat → Nat → Int) (s : Int) : ∀ i, mn2 f 1 s i = mn1 (fun j => f j 0) s i
  | 0 => rfl
  | i + 1 => by
    show min (mn2 f 1 s i) (f i 0) = min (mn1 (fun j => f j 0) s i) (f i 0)
    rw [mn2_one f s i]
theorem le_ext {a b : Int} (h : ∀ x : Int, x ≤ a ↔ x ≤ b) : a = b := by
  have h1 := (h a).1 (Int.le_refl _)
  have h2 := (h b).2 (Int.le_refl _)
  omega

/-- How many segments a core has. -/
def nsg (l : List Pt) : Nat := if l.length ≤ 2 then 1 else l.length
theorem nsg_pos (l : List Pt) : 1 ≤ nsg l := by unfold nsg; split <;> omega
/-- The distance of segment i of l and segment k of m. -/
def sgd (l m : List Pt) (i k : Nat) : Int := sdist (hp' l i).1 (hp' l i).2 (hp' l (i + 1)).1 (hp' l (i + 1)).2 (hp' m k).1 (hp' m k).2 (hp' m (k + 1)).1 (hp' m (k + 1)).2
def gap (l m : List Pt) : Int := mn2 (sgd l m) (nsg m) 536870911 (nsg l)
theorem gap_iff (l m : List Pt) (x : Int) : x ≤ gap l m ↔ x ≤ 536870911 ∧ ∀ i, i < nsg l → ∀ k, k < nsg m → x ≤ sgd l m i k := mn2_le _
theorem gap_le {l m : List Pt} {i k : Nat} (hi : i < nsg l) (hk : k < nsg m) : gap l m ≤ sgd l m i k := ((gap_iff l m _).1 (Int.le_refl _)).2 i hi k hk
theorem gap_in (l m : List Pt) : 0 ≤ gap l m ∧ gap l m ≤ 536870911 :=
  ⟨(gap_iff l m 0).2 ⟨by decide, fun i _ k _ => (sdist_in ..).1⟩, ((gap_iff l m _).1 (Int.le_refl _)).1⟩
theorem gap_comm (l m : List Pt) : gap l m = gap m l := le_ext fun x => by
  rw [gap_iff, gap_iff]
  constructor <;> (rintro ⟨h1, h2⟩; exact ⟨h1, fun i hi k hk => by have := h2 k hk i hi; unfold sgd at *; rw [sdist_swap]; exact this⟩)
theorem gap_ext {l m l' m' : List Pt} (hl : l.length = l'.length) (hm : m.length = m'.length) (h : ∀ i k, sgd l m i k = sgd l' m' i k) : gap l m = gap l' m' := le_ext fun x => by
  rw [gap_iff, gap_iff]
  have e1 : nsg l = nsg l' := by unfold nsg; rw [hl]
  have e2 : nsg m = nsg m' := by unfold nsg; rw [hm]
  rw [e1, e2]
  constructor <;> (rintro ⟨h1, h2⟩; exact ⟨h1, fun i hi k hk => by have := h2 i hi k hk; rw [h] at *; exact this⟩)

/-- Separation of cores, of shapes; ToPoint. -/
def inpol (K : Int) (l : List Pt) (p : Pt) : Bool := decide (K = 3) && polin l p.1 p.2
def sepC (K R : Int) (l : List Pt) (K2 R2 : Int) (m : List Pt) : Int := if (inpol K l (hp' m 0) || inpol K2 m (hp' l 0)) = true then 0 else max 0 (sub (sub (gap l m) R) R2)
def sepS (K R : Int) (ps : List Pt) (px py pa K2 R2 : Int) (qs : List Pt) (qx qy qa : Int) : Int :=
  if valS K R ps = 0 ∧ valS K2 R2 qs = 0 then sepC K R (ps.map (tr px py pa)) K2 R2 (qs.map (tr qx qy qa)) else 536870911
def ptC (K R : Int) (l : List Pt) (x y : Int) : Int := if conC K R l x y = true then 0 else max 0 (sub (gap l [(x, y)]) R)
def ptS (K R : Int) (ps : List Pt) (px py pa x y : Int) : Int := if valS K R ps = 0 then ptC K R (ps.map (tr px py pa)) x y else 536870911

theorem sub_gap {g R : Int} (hg : 0 ≤ g ∧ g ≤ 536870911) (hR : 0 ≤ R ∧ R ≤ 524288) : sub g R = g - R := sub_in ⟨by omega, by omega⟩ ⟨by omega, by omega⟩ ⟨by omega, by omega⟩
theorem sub_gap2 {g R S : Int} (hg : 0 ≤ g ∧ g ≤ 536870911) (hR : 0 ≤ R ∧ R ≤ 524288) (hS : 0 ≤ S ∧ S ≤ 524288) : sub (sub g R) S = g - R - S := by
  rw [sub_gap hg hR]; exact sub_in ⟨by omega, by omega⟩ ⟨by omega, by omega⟩ ⟨by omega, by omega⟩
theorem rad_in {K R : Int} {ps : List Pt} (h : valS K R ps = 0) : 0 ≤ R ∧ R ≤ 524288 := ⟨(val_rad h).1, (val_rad h).2.1⟩
theorem sepS_comm (K R : Int) (ps : List Pt) (px py pa K2 R2 : Int) (qs : List Pt) (qx qy qa : Int) : sepS K2 R2 qs qx qy qa K R ps px py pa = sepS K R ps px py pa K2 R2 qs qx qy qa := by
  unfold sepS
  by_cases h : valS K R ps = 0 ∧ valS K2 R2 qs = 0
  · rw [if_pos h, if_pos h.symm]
    unfold sepC
    rw [Bool.or_comm, gap_comm, sub_gap2 (gap_in _ _) (rad_in h.2) (rad_in h.1), sub_gap2 (gap_in _ _) (rad_in h.1) (rad_in h.2)]
    have e : ∀ g : Int, g - R2 - R = g - R - R2 := fun g => by omega
    rw [e]
  · rw [if_neg h, if_neg fun g => h g.symm]
theorem sepS_nn (K R : Int) (ps : List Pt) (px py pa K2 R2 : Int) (qs : List Pt) (qx qy qa : Int) : 0 ≤ sepS K R ps px py pa K2 R2 qs qx qy qa := by
  unfold sepS sepC; split <;> (try split) <;> omega
theorem sepS_val {K R : Int} {ps : List Pt} (px py pa : Int) {K2 R2 : Int} {qs : List Pt} (qx qy qa : Int) (h : ¬ (valS K R ps = 0 ∧ valS K2 R2 qs = 0)) : sepS K R ps px py pa K2 R2 qs qx qy qa = 536870911 := if_neg h

/-- A circle of chapter 17's statements. -/
theorem rotx_none0 (c s : Int) : rotx c s 0 0 = 0 := by unfold rotx; rw [show sat 0 = 0 from by decide]; simp; decide +kernel
theorem roty_none0 (c s : Int) : roty c s 0 0 = 0 := by unfold roty; rw [show sat 0 = 0 from by decide]; simp; decide +kernel
theorem tr_origin (px py a : Int) : tr px py a (0, 0) = (sat px, sat py) := by
  unfold tr tpx tpy; dsimp only
  rw [rotx_none0, roty_none0]; unfold add; rw [show sat 0 = 0 from by decide, Int.zero_add, Int.zero_add, sat_sat, sat_sat]
theorem valS_circ {r : Int} (h0 : 2048 ≤ r) (h1 : r ≤ 524288) : valS 1 r [(0, 0)] = 0 := by
  rw [valS_zero]
  refine ⟨by omega, by decide, fun p hp => ?_, ?_, by decide, by decide⟩
  · rw [List.mem_singleton] at hp; subst hp; unfold inrP; decide
  · unfold radbad; simp; omega
theorem map_origin (px py a : Int) : [((0 : Int), (0 : Int))].map (tr px py a) = [(sat px, sat py)] := by rw [List.map_cons, List.map_nil, tr_origin]
theorem hp_one (p : Pt) (i : Nat) : hp' [p] i = p := by unfold hp'; rw [show i % [p].length = 0 from by simp [Nat.mod_one]]; rfl

/-- The distance of two points. -/
theorem isct_point {ax ay cx cy : Int} (h : isct ax ay ax ay cx cy cx cy = true) : sat ax = sat cx ∧ sat ay = sat cy := by
  unfold isct at h
  simp only [Bool.and_eq_true] at h
  have := Bx.ovl_iff.1 h.2
  unfold Bx.two at this
  dsimp only at this
  omega
theorem pick_one (o : Pp) : o.pick o = o := by unfold Pp.pick; split <;> rfl
theorem best_point (ax ay cx cy : Int) : best ax ay ax ay cx cy cx cy = ⟨sat ax, sat ay, sat cx, sat cy⟩ := by
  unfold best cand1 cand2 cand3 cand4
  simp only [cpt_point, cpc_zero, pick_one]
theorem sdist_point (ax ay cx cy : Int) : sdist ax ay ax ay cx cy cx cy = if isct ax ay ax ay cx cy cx cy = true then 0 else sat (isq (dist2 ax ay cx cy)) := by
  unfold sdist; rw [best_point]; unfold Pp.d; dsimp only; rw [dist2_ss]
theorem isq_mono {m n : Int} (h0 : 0 ≤ m) (h : m ≤ n) (hn : n ≤ 4611686018427387904) : isq m ≤ isq n := by
  obtain ⟨a0, a1, a2⟩ := isq_is h0 (by omega)
  obtain ⟨b0, b1, b2⟩ := isq_is (n := n) (by omega) hn
  false_or_by_contra
  have := Int.mul_le_mul (a := isq n + 1) (b := isq n + 1) (c := isq m) (d := isq m) (by omega) (by omega) (by omega) (by omega)
  omega
/-- Where the length of the difference is at most R, so is the distance. -/
theorem sdist_len {ax ay cx cy R : Int} (h0 : 0 ≤ R) (h1 : R ≤ 524288) (h : vlen (sub cx ax) (sub cy ay) ≤ R) : sdist ax ay ax ay cx cy cx cy ≤ R := by
  rw [sdist_point]
  split
  · exact h0
  · have hd := dist2_in ax ay cx cy
    unfold vlen at h
    have e1 : sat (sub cx ax) = sub cx ax := by unfold sub; exact sat_sat _
    have e2 : sat (sub cy ay) = sub cy ay := by unfold sub; exact sat_sat _
    rw [e1, e2] at h
    have hb : ∀ u : Int, sub 0 0 = 0 → True := fun _ _ => trivial
    have m1 := @satmul (sub cx ax) (sub cx ax)
    have m2 := @satmul (sub cy ay) (sub cy ay)
    rw [e1] at m1
    rw [e2] at m2
    have n1 := sq_nn (sub cx ax)
    have n2 := sq_nn (sub cy ay)
    have hs := isq_sq (by omega) (by omega) h0 h
    have q1 := abs_le_of_sq (u := sub cx ax) (R := R) (by omega) h0
    have q2 := abs_le_of_sq (u := sub cy ay) (R := R) (by omega) h0
    have f1 : sub cx ax = sat cx - sat ax := by
      unfold sub at q1 ⊢
      generalize sat cx - sat ax = u at *
      unfold sat at q1 ⊢; split at q1 <;> (try split at q1) <;> (try split) <;> (try split) <;> omega
    have f2 : sub cy ay = sat cy - sat ay := by
      unfold sub at q2 ⊢
      generalize sat cy - sat ay = u at *
      unfold sat at q2 ⊢; split at q2 <;> (try split at q2) <;> (try split) <;> (try split) <;> omega
    rw [f1, f2] at h
    unfold dist2
    have g := (isq_is (n := (sat cx - sat ax) * (sat cx - sat ax) + (sat cy - sat ay) * (sat cy - sat ay)) (by unfold dist2 at hd; exact hd.1) (by unfold dist2 at hd; exact hd.2)).1
    rw [sat_id (by omega) (by omega)]
    exact h

/-- Containing a point keeps the distance to it within the radius (circle and capsule). -/
theorem con_gap {K R : Int} {ps l : List Pt} {x y : Int} (hv : valS K R ps = 0) (hl : l.length = ps.length) (k3 : K ≠ 3) (h : conC K R l x y = true) : gap l [(x, y)] ≤ R := by
  have hr := rad_in hv
  have g := gap_le (l := l) (m := [(x, y)]) (i := 0) (k := 0) (nsg_pos _) (nsg_pos _)
  unfold sgd at g
  rw [hp_one, hp_one] at g
  dsimp only [Nat.zero_add] at g
  have n1 := (val_len hv).2.2.1
  unfold conC at h
  by_cases k1 : K = 1
  · rw [if_pos k1] at h
    have h := of_decide_eq_true h
    have e : hp' l 1 = hp' l 0 := by
      have hl1 : l.length = 1 := by rw [hl]; exact n1 k1
      unfold hp'; rw [hl1]
    rw [e] at g
    have := sdist_len hr.1 hr.2 h
    omega
  · have k2 : K = 2 := by have := (valS_zero.1 hv).1; omega
    rw [if_neg k1, if_pos k2] at h
    have h := of_decide_eq_true h
    rw [sdist_swap] at g
    have g : gap l [(x, y)] ≤ sdist x y x y (hp' l 0).1 (hp' l 0).2 (hp' l 1).1 (hp' l 1).2 := g
    omega

theorem circle_sep {K R r : Int} {ps : List Pt} {px py pa cx cy : Int} (hv : valS K R ps = 0) (hr : 2048 ≤ r ∧ r ≤ 524288) (hx : -536870911 ≤ cx ∧ cx ≤ 536870911) (hy : -536870911 ≤ cy ∧ cy ≤ 536870911) :
    sepS K R ps px py pa 1 r [(0, 0)] cx cy 0 = max (ptS K R ps px py pa cx cy - r) 0 := by
  unfold sepS ptS
  rw [if_pos ⟨hv, valS_circ hr.1 hr.2⟩, if_pos hv, map_origin, sat_id hx.1 hx.2, sat_id hy.1 hy.2]
  have hg := gap_in (ps.map (tr px py pa)) [(cx, cy)]
  have hR := rad_in hv
  have hcg : K ≠ 3 → conC K R (ps.map (tr px py pa)) cx cy = true → gap (ps.map (tr px py pa)) [(cx, cy)] ≤ R := fun k3 => con_gap hv (List.length_map ..) k3
  generalize ps.map (tr px py pa) = l at *
  unfold sepC ptC
  rw [hp_one, sub_gap2 hg hR ⟨by omega, hr.2⟩, sub_gap hg hR, show inpol 1 [(cx, cy)] (hp' l 0) = false from rfl, Bool.or_false]
  by_cases k3 : K = 3
  · have e : conC K R l cx cy = polin l cx cy := by subst k3; rfl
    have e2 : inpol K l (cx, cy) = polin l cx cy := by subst k3; unfold inpol; rfl
    rw [e, e2]
    split <;> omega
  · have e2 : inpol K l (cx, cy) = false := by unfold inpol; rw [decide_eq_false k3]; rfl
    rw [e2, if_neg (by decide)]
    split
    · rename_i h; have := hcg k3 h; omega
    · omega

/-- Own points. -/
theorem sdist_start (ax ay bx b_y cx cy : Int) : sdist ax ay bx b_y ax ay cx cy = 0 := sdist_isct (isct_share ..)
theorem pt_zero {K R : Int} {ps : List Pt} {px py pa x y : Int} (hv : valS K R ps = 0) (h : conS K R ps px py pa x y = true) : ptS K R ps px py pa x y = 0 := by
  unfold conS at h; rw [Bool.and_eq_true] at h
  unfold ptS ptC; rw [if_pos hv, if_pos h.2]
theorem pt_nn (K R : Int) (ps : List Pt) (px py pa x y : Int) : 0 ≤ ptS K R ps px py pa x y := by
  unfold ptS ptC; split <;> (try split) <;> omega
theorem pt_val {K R : Int} {ps : List Pt} (px py pa x y : Int) (h : ¬ valS K R ps = 0) : ptS K R ps px py pa x y = 536870911 := if_neg h
theorem pt_core {K R : Int} {ps : List Pt} {px py pa : Int} (hv : valS K R ps = 0) {i : Nat} (hi : i < ps.length) : ptS K R ps px py pa (hp' (ps.map (tr px py pa)) i).1 (hp' (ps.map (tr px py pa)) i).2 = 0 := by
  have hlen : (ps.map (tr px py pa)).length = ps.length := List.length_map ..
  have hR := rad_in hv
  unfold ptS; rw [if_pos hv]
  generalize ps.map (tr px py pa) = l at *
  unfold ptC
  split
  · rfl
  have hg := gap_in l [((hp' l i).1, (hp' l i).2)]
  have hz : gap l [((hp' l i).1, (hp' l i).2)] ≤ 0 := by
    by_cases n2 : l.length ≤ 2
    · have g := gap_le (l := l) (m := [((hp' l i).1, (hp' l i).2)]) (i := 0) (k := 0) (nsg_pos _) (nsg_pos _)
      unfold sgd at g
      rw [hp_one, hp_one] at g
      have : i = 0 ∨ i = 1 := by omega
      rcases this with rfl | rfl
      · rw [sdist_start] at g; exact g
      · rw [sdist_share] at g; exact g
    · have g := gap_le (l := l) (m := [((hp' l i).1, (hp' l i).2)]) (i := i) (k := 0) (by unfold nsg; rw [if_neg n2]; omega) (nsg_pos _)
      unfold sgd at g
      rw [hp_one, hp_one, sdist_start] at g
      exact g
  rw [sub_gap hg hR]
  omega
theorem sep_self {K R : Int} {ps : List Pt} {px py pa : Int} (hv : valS K R ps = 0) : sepS K R ps px py pa K R ps px py pa = 0 := by
  have hR := rad_in hv
  unfold sepS; rw [if_pos ⟨hv, hv⟩]
  generalize ps.map (tr px py pa) = l at *
  unfold sepC
  split
  · rfl
  have hg := gap_in l l
  have g := gap_le (l := l) (m := l) (i := 0) (k := 0) (nsg_pos _) (nsg_pos _)
  unfold sgd at g
  rw [sdist_start] at g
  rw [sub_gap2 hg hR hR]
  omega

/-- The example. -/
theorem ex17_gap (d : Int) (h0 : 0 ≤ d) (h1 : d ≤ 262144) : gap [(0, 0)] [(d, 0)] = d := by
  unfold gap
  show min 536870911 (sgd [(0, 0)] [(d, 0)] 0 0) = d
  unfold sgd
  simp only [hp_one]
  rw [sdist_point]
  have e : dist2 0 0 d 0 = d * d := by unfold dist2; rw [show sat 0 = 0 from by decide, sat_id (by omega) (by omega)]; grind
  have hd : isq (d * d) = d := by
    have hm := mul_between (a := d) (b := d) (A := 262144) (B := 262144) (by omega) (by omega) (by omega) (by omega)
    have h2 : (d + 1) * (d + 1) = d * d + 2 * d + 1 := by grind
    exact isq_eq (by have := sq_nn d; omega) (by omega) h0 (Int.le_refl _) (by omega)
  split
  · rename_i h
    have := (isct_point h).1
    rw [show sat 0 = 0 from by decide, sat_id (by omega) (by omega)] at this
    omega
  · rw [e, hd, sat_id (by omega) (by omega)]; omega
theorem ex17_sep (p q : Int) (h0 : 0 ≤ q - p) (h1 : q ≤ 262144) (hp : p = 0 ∨ p = q) : sepS 1 65536 [(0, 0)] p 0 0 1 65536 [(0, 0)] q 0 0 = max 0 (q - p - 131072) := by
  unfold sepS
  rw [if_pos ⟨valS_circ (by decide) (by decide), valS_circ (by decide) (by decide)⟩, map_origin, map_origin]
  unfold sepC
  rw [show ∀ l p, inpol 1 l p = false from fun _ _ => rfl, show ∀ l p, inpol 1 l p = false from fun _ _ => rfl, if_neg (by decide), sub_gap2 (gap_in _ _) ⟨by decide, by decide⟩ ⟨by decide, by decide⟩]
  rcases hp with rfl | rfl
  · rw [show sat 0 = 0 from by decide, sat_id (by omega) (by omega), ex17_gap q (by omega) h1]; omega
  · have g := gap_le (l := [(sat p, sat 0)]) (m := [(sat p, sat 0)]) (i := 0) (k := 0) (nsg_pos _) (nsg_pos _)
    unfold sgd at g
    rw [sdist_start] at g
    have := gap_in [(sat p, sat 0)] [(sat p, sat 0)]
    omega
theorem ex17_pt : ptS 1 65536 [(0, 0)] 262144 0 0 0 0 = 196608 := by
  unfold ptS
  rw [if_pos (valS_circ (by decide) (by decide)), map_origin]
  have e : sat 262144 = 262144 := by decide
  have e0 : sat 0 = 0 := by decide
  rw [e, e0]
  unfold ptC
  have hc : conC 1 65536 [(262144, 0)] 0 0 = false := by
    unfold conC
    rw [if_pos rfl, hp_one]
    dsimp only
    have h1 : sub 0 262144 = -262144 := by decide
    have h2 : sub 0 0 = 0 := by decide
    rw [h1, h2]
    have hv : vlen (-262144) 0 = 262144 := by
      unfold vlen; rw [show sat (-262144) = -262144 from by decide, e0]
      exact isq_eq (by decide) (by decide) (by decide) (by decide) (by decide)
    rw [hv]; decide
  rw [hc, if_neg (by decide), gap_comm, ex17_gap 262144 (by decide) (by decide)]
  decide

/-! ### Translations -/
def mv (u v : Int) (p : Pt) : Pt := (p.1 + u, p.2 + v)
def rg (x u : Int) : Prop := (-268435456 ≤ x ∧ x ≤ 268435456) ∧ -268435456 ≤ x + u ∧ x + u ≤ 268435456
theorem rg_sat {x u : Int} (h : rg x u) : sat x = x ∧ sat (x + u) = x + u := by
  unfold rg at h; exact ⟨sat_id (by omega) (by omega), sat_id (by omega) (by omega)⟩
theorem lerp_mv {a b t d : Int} (h0 : 0 ≤ t) (h1 : t ≤ 65536) (ha : rg a d) (hb : rg b d) : lerp (a + d) (b + d) t = lerp a b t + d := by
  have g1 := lerp_between (a := a) (b := b) h0 h1
  have g2 := lerp_between (a := a + d) (b := b + d) h0 h1
  have e1 : lerp a b t = sat (a + sat (mul (sub b a) t)) := by unfold lerp add; rw [(rg_sat ha).1]
  have e2 : lerp (a + d) (b + d) t = sat (a + d + sat (mul (sub b a) t)) := by
    unfold lerp add
    rw [(rg_sat ha).2, show sub (b + d) (a + d) = sub b a from by unfold sub; rw [(rg_sat ha).1, (rg_sat ha).2, (rg_sat hb).1, (rg_sat hb).2]; congr 1; omega]
  rw [(rg_sat ha).1, (rg_sat hb).1] at g1
  rw [(rg_sat ha).2, (rg_sat hb).2] at g2
  rw [e1] at g1 ⊢
  rw [e2] at g2 ⊢
  generalize sat (mul (sub b a) t) = m at *
  unfold rg at ha hb
  clear e1 e2
  unfold sat at g1 g2 ⊢
  split at g1 <;> (try split at g1) <;> split at g2 <;> (try split at g2) <;> (try split) <;> (try split) <;> omega
theorem cpc_mv {a b t d : Int} (h0 : 0 ≤ t) (h1 : t ≤ 65536) (ha : rg a d) (hb : rg b d) : cpc t (a + d) (b + d) = cpc t a b + d := by
  unfold cpc
  split
  · rw [(rg_sat ha).1, (rg_sat ha).2]
  · split
    · rw [(rg_sat hb).1, (rg_sat hb).2]
    · exact lerp_mv h0 h1 ha hb
theorem dif_mv (a b d : Int) : a + d - (b + d) = a - b := by omega
theorem dist2_mv {ax ay bx b_y u v : Int} (h1 : rg ax u) (h2 : rg ay v) (h3 : rg bx u) (h4 : rg b_y v) : dist2 (ax + u) (ay + v) (bx + u) (b_y + v) = dist2 ax ay bx b_y := by
  unfold dist2
  rw [(rg_sat h1).1, (rg_sat h1).2, (rg_sat h2).1, (rg_sat h2).2, (rg_sat h3).1, (rg_sat h3).2, (rg_sat h4).1, (rg_sat h4).2, dif_mv, dif_mv]
theorem cpt_mv {ax ay bx b_y px py u v : Int} (h1 : rg ax u) (h2 : rg ay v) (h3 : rg bx u) (h4 : rg b_y v) (h5 : rg px u) (h6 : rg py v) : cpt (ax + u) (ay + v) (bx + u) (b_y + v) (px + u) (py + v) = cpt ax ay bx b_y px py := by
  unfold cpt
  rw [dist2_mv h1 h2 h3 h4, (rg_sat h1).1, (rg_sat h1).2, (rg_sat h2).1, (rg_sat h2).2, (rg_sat h3).1, (rg_sat h3).2, (rg_sat h4).1, (rg_sat h4).2, (rg_sat h5).1, (rg_sat h5).2, (rg_sat h6).1, (rg_sat h6).2, dif_mv, dif_mv, dif_mv, dif_mv]
theorem orient_mv {ax ay bx b_y cx cy u v : Int} (h1 : rg ax u) (h2 : rg ay v) (h3 : rg bx u) (h4 : rg b_y v) (h5 : rg cx u) (h6 : rg cy v) : orient (ax + u) (ay + v) (bx + u) (b_y + v) (cx + u) (cy + v) = orient ax ay bx b_y cx cy := by
  unfold orient det
  rw [(rg_sat h1).1, (rg_sat h1).2, (rg_sat h2).1, (rg_sat h2).2, (rg_sat h3).1, (rg_sat h3).2, (rg_sat h4).1, (rg_sat h4).2, (rg_sat h5).1, (rg_sat h5).2, (rg_sat h6).1, (rg_sat h6).2, dif_mv, dif_mv, dif_mv, dif_mv]
theorem two_ovl (ax ay bx b_y cx cy dx dy : Int) : (Bx.two ax ay bx b_y).ovl (Bx.two cx cy dx dy) = (decide (min (sat ax) (sat bx) ≤ max (sat cx) (sat dx)) && decide (min (sat cx) (sat dx) ≤ max (sat ax) (sat bx)) && decide (min (sat ay) (sat b_y) ≤ max (sat cy) (sat dy)) && decide (min (sat cy) (sat dy) ≤ max (sat ay) (sat b_y))) := by
  unfold Bx.ovl; rw [two_val, two_val]; rfl
theorem le_mv {a b c e d : Int} : decide (min (a + d) (b + d) ≤ max (c + d) (e + d)) = decide (min a b ≤ max c e) := decide_eq_decide.2 (by omega)
theorem isct_mv {ax ay bx b_y cx cy dx dy u v : Int} (h1 : rg ax u) (h2 : rg ay v) (h3 : rg bx u) (h4 : rg b_y v) (h5 : rg cx u) (h6 : rg cy v) (h7 : rg dx u) (h8 : rg dy v) : isct (ax + u) (ay + v) (bx + u) (b_y + v) (cx + u) (cy + v) (dx + u) (dy + v) = isct ax ay bx b_y cx cy dx dy := by
  unfold isct
  rw [orient_mv h1 h2 h3 h4 h5 h6, orient_mv h1 h2 h3 h4 h7 h8, orient_mv h5 h6 h7 h8 h1 h2, orient_mv h5 h6 h7 h8 h3 h4, two_ovl, two_ovl,
    (rg_sat h1).1, (rg_sat h1).2, (rg_sat h2).1, (rg_sat h2).2, (rg_sat h3).1, (rg_sat h3).2, (rg_sat h4).1, (rg_sat h4).2, (rg_sat h5).1, (rg_sat h5).2, (rg_sat h6).1, (rg_sat h6).2, (rg_sat h7).1, (rg_sat h7).2, (rg_sat h8).1, (rg_sat h8).2, le_mv, le_mv, le_mv, le_mv]
/-- A point moved in the range of the segment. -/
theorem cpc_rg {a b t d : Int} (h0 : 0 ≤ t) (h1 : t ≤ 65536) (ha : rg a d) (hb : rg b d) : rg (cpc t a b) d := by
  have g := cpc_between (a := a) (b := b) h0 h1
  rw [(rg_sat ha).1, (rg_sat hb).1] at g
  unfold rg at *; omega
theorem cand_mv {ax ay cx cy dx dy u v : Int} (h1 : rg ax u) (h2 : rg ay v) (h5 : rg cx u) (h6 : rg cy v) (h7 : rg dx u) (h8 : rg dy v) :
    dist2 (sat (ax + u)) (sat (ay + v)) (cpc (cpt (cx + u) (cy + v) (dx + u) (dy + v) (ax + u) (ay + v)) (cx + u) (dx + u)) (cpc (cpt (cx + u) (cy + v) (dx + u) (dy + v) (ax + u) (ay + v)) (cy + v) (dy + v)) = dist2 (sat ax) (sat ay) (cpc (cpt cx cy dx dy ax ay) cx dx) (cpc (cpt cx cy dx dy ax ay) cy dy) := by
  obtain ⟨t0, t1⟩ := cpt_in cx cy dx dy ax ay
  rw [cpt_mv h5 h6 h7 h8 h1 h2, cpc_mv t0 t1 h5 h7, cpc_mv t0 t1 h6 h8, (rg_sat h1).1, (rg_sat h1).2, (rg_sat h2).1, (rg_sat h2).2]
  exact dist2_mv h1 h2 (cpc_rg t0 t1 h5 h7) (cpc_rg t0 t1 h6 h8)
theorem sdist_mv {ax ay bx b_y cx cy dx dy u v : Int} (h1 : rg ax u) (h2 : rg ay v) (h3 : rg bx u) (h4 : rg b_y v) (h5 : rg cx u) (h6 : rg cy v) (h7 : rg dx u) (h8 : rg dy v) : sdist (ax + u) (ay + v) (bx + u) (b_y + v) (cx + u) (cy + v) (dx + u) (dy + v) = sdist ax ay bx b_y cx cy dx dy := by
  have e1 : (cand1 (ax + u) (ay + v) (bx + u) (b_y + v) (cx + u) (cy + v) (dx + u) (dy + v)).d = (cand1 ax ay bx b_y cx cy dx dy).d := cand_mv h1 h2 h5 h6 h7 h8
  have e2 : (cand2 (ax + u) (ay + v) (bx + u) (b_y + v) (cx + u) (cy + v) (dx + u) (dy + v)).d = (cand2 ax ay bx b_y cx cy dx dy).d := cand_mv h3 h4 h5 h6 h7 h8
  have e3 : (cand3 (ax + u) (ay + v) (bx + u) (b_y + v) (cx + u) (cy + v) (dx + u) (dy + v)).d = (cand3 ax ay bx b_y cx cy dx dy).d := by
    unfold cand3 Pp.d; dsimp only; rw [dist2_comm, dist2_comm (cpc _ _ _)]; exact cand_mv h5 h6 h1 h2 h3 h4
  have e4 : (cand4 (ax + u) (ay + v) (bx + u) (b_y + v) (cx + u) (cy + v) (dx + u) (dy + v)).d = (cand4 ax ay bx b_y cx cy dx dy).d := by
    unfold cand4 Pp.d; dsimp only; rw [dist2_comm, dist2_comm (cpc _ _ _)]; exact cand_mv h7 h8 h1 h2 h3 h4
  unfold sdist
  rw [isct_mv h1 h2 h3 h4 h5 h6 h7 h8, best_d, best_d, e1, e2, e3, e4]
/-- All points of a core, moved, in range. -/
def rgL (l : List Pt) (u v : Int) : Prop := ∀ i, rg (hp' l i).1 u ∧ rg (hp' l i).2 v
theorem gap_mv {l m : List Pt} {u v : Int} (hl0 : 0 < l.length) (hm0 : 0 < m.length) (hl : rgL l u v) (hm : rgL m u v) : gap (l.map (mv u v)) (m.map (mv u v)) = gap l m := by
  refine gap_ext (List.length_map ..) (List.length_map ..) fun i k => ?_
  unfold sgd
  rw [hp_map _ hl0, hp_map _ hl0, hp_map _ hm0, hp_map _ hm0]
  exact sdist_mv (hl i).1 (hl i).2 (hl (i + 1)).1 (hl (i + 1)).2 (hm k).1 (hm k).2 (hm (k + 1)).1 (hm (k + 1)).2
theorem polin_mv {l : List Pt} {u v x y : Int} (hl0 : 0 < l.length) (hl : rgL l u v) (hx : rg x u) (hy : rg y v) : polin (l.map (mv u v)) (x + u) (y + v) = polin l x y := by
  unfold polin
  refine decide_eq_decide.2 ?_
  rw [List.length_map]
  have e : ∀ i, or3 (hp' (l.map (mv u v)) i) (hp' (l.map (mv u v)) (i + 1)) (x + u, y + v) = or3 (hp' l i) (hp' l (i + 1)) (x, y) := fun i => by
    rw [hp_map _ hl0, hp_map _ hl0]
    exact orient_mv (hl i).1 (hl i).2 (hl (i + 1)).1 (hl (i + 1)).2 hx hy
  simp only [e]
theorem sepC_mv {K R K2 R2 : Int} {l m : List Pt} {u v : Int} (hl0 : 0 < l.length) (hm0 : 0 < m.length) (hl : rgL l u v) (hm : rgL m u v) : sepC K R (l.map (mv u v)) K2 R2 (m.map (mv u v)) = sepC K R l K2 R2 m := by
  unfold sepC inpol
  rw [gap_mv hl0 hm0 hl hm, hp_map _ hl0 0, hp_map _ hm0 0]
  have e1 : polin (l.map (mv u v)) (mv u v (hp' m 0)).1 (mv u v (hp' m 0)).2 = polin l (hp' m 0).1 (hp' m 0).2 := polin_mv hl0 hl (hm 0).1 (hm 0).2
  have e2 : polin (m.map (mv u v)) (mv u v (hp' l 0)).1 (mv u v (hp' l 0)).2 = polin m (hp' l 0).1 (hp' l 0).2 := polin_mv hm0 hm (hl 0).1 (hl 0).2
  rw [e1, e2]
/-- A rotated vertex is small. -/
theorem ro_in {a : Int} {p : Pt} (hp : inrP p) : (-1483008 ≤ rotx (rotc a) (rots a) p.1 p.2 ∧ rotx (rotc a) (rots a) p.1 p.2 ≤ 1483008) ∧ -1483008 ≤ roty (rotc a) (rots a) p.1 p.2 ∧ roty (rotc a) (rots a) p.1 p.2 ≤ 1483008 := by
  have hr := rot_le a
  have hD := rot_unit_hi a
  unfold inrP at hp
  obtain ⟨⟨e1, h1, b1, b1'⟩, e2, h2, b2, b2'⟩ := rot_near (c := rotc a) (s := rots a) (x := p.1) (y := p.2) ⟨hr.1, hr.2.1⟩ ⟨hr.2.2.1, hr.2.2.2⟩ ⟨hp.1, hp.2.1⟩ ⟨hp.2.2.1, hp.2.2.2⟩
  obtain ⟨C, Sn, c0, s0, c1, c2, s1, s2, hs⟩ := sum_abs (c := rotc a) (s := rots a) (by omega)
  have p1 := mul_between c1 c2 hp.1 hp.2.1
  have p2 := mul_between s1 s2 hp.2.2.1 hp.2.2.2
  have p3 := mul_between s1 s2 hp.1 hp.2.1
  have p4 := mul_between c1 c2 hp.2.2.1 hp.2.2.2
  clear hD hr
  omega
def nr (x : Int) : Prop := -67108864 ≤ x ∧ x ≤ 67108864
theorem tr_mv {px py a u v : Int} (hx : nr px) (hy : nr py) (hu : nr u) (hv : nr v) {p : Pt} (hp : inrP p) : tr (px + u) (py + v) a p = mv u v (tr px py a p) ∧ rg (tr px py a p).1 u ∧ rg (tr px py a p).2 v := by
  have h := ro_in (a := a) hp
  unfold nr at *
  have e1 : tpx px a p.1 p.2 = rotx (rotc a) (rots a) p.1 p.2 + px := by
    unfold tpx add; rw [sat_id (x := rotx (rotc a) (rots a) p.1 p.2) (by omega) (by omega), sat_id (x := px) (by omega) (by omega), sat_id (by omega) (by omega)]
  have e2 : tpy py a p.1 p.2 = roty (rotc a) (rots a) p.1 p.2 + py := by
    unfold tpy add; rw [sat_id (x := roty (rotc a) (rots a) p.1 p.2) (by omega) (by omega), sat_id (x := py) (by omega) (by omega), sat_id (by omega) (by omega)]
  have e3 : tpx (px + u) a p.1 p.2 = rotx (rotc a) (rots a) p.1 p.2 + (px + u) := by
    unfold tpx add; rw [sat_id (x := rotx (rotc a) (rots a) p.1 p.2) (by omega) (by omega), sat_id (x := px + u) (by omega) (by omega), sat_id (by omega) (by omega)]
  have e4 : tpy (py + v) a p.1 p.2 = roty (rotc a) (rots a) p.1 p.2 + (py + v) := by
    unfold tpy add; rw [sat_id (x := roty (rotc a) (rots a) p.1 p.2) (by omega) (by omega), sat_id (x := py + v) (by omega) (by omega), sat_id (by omega) (by omega)]
  unfold mv tr rg
  dsimp only
  rw [e1, e2, e3, e4]
  refine ⟨?_, by omega, by omega⟩
  rw [Int.add_assoc, Int.add_assoc]
theorem map_mv {ps : List Pt} {px py a u v : Int} (hx : nr px) (hy : nr py) (hu : nr u) (hv : nr v) (h0 : 0 < ps.length) (hp : ∀ p ∈ ps, inrP p) : ps.map (tr (px + u) (py + v) a) = (ps.map (tr px py a)).map (mv u v) ∧ rgL (ps.map (tr px py a)) u v := by
  constructor
  · rw [List.map_map]
    exact List.map_congr_left fun p h => (tr_mv hx hy hu hv (hp p h)).1
  · intro i
    rw [hp_map _ h0]
    have hm : hp' ps i ∈ ps := by
      unfold hp'
      have := Nat.mod_lt i h0
      rw [List.getD_eq_getElem?_getD, List.getElem?_eq_getElem this]
      exact List.getElem_mem this
    exact (tr_mv hx hy hu hv (hp _ hm)).2
theorem sepS_mv (K R : Int) (ps : List Pt) (px py pa K2 R2 : Int) (qs : List Pt) (qx qy qa : Int) {u v : Int} (h1 : nr px) (h2 : nr py) (h3 : nr qx) (h4 : nr qy) (hu : nr u) (hv : nr v) :
    sepS K R ps (px + u) (py + v) pa K2 R2 qs (qx + u) (qy + v) qa = sepS K R ps px py pa K2 R2 qs qx qy qa := by
  unfold sepS
  by_cases h : valS K R ps = 0 ∧ valS K2 R2 qs = 0
  · rw [if_pos h, if_pos h]
    obtain ⟨e1, g1⟩ := map_mv (a := pa) h1 h2 hu hv (val_len h.1).1 (valS_zero.1 h.1).2.2.1
    obtain ⟨e2, g2⟩ := map_mv (a := qa) h3 h4 hu hv (val_len h.2).1 (valS_zero.1 h.2).2.2.1
    rw [e1, e2]
    exact sepC_mv (by rw [List.length_map]; exact (val_len h.1).1) (by rw [List.length_map]; exact (val_len h.2).1) g1 g2
  · rw [if_neg h, if_neg h]

end Go.Proofs.Ytipcbcngedpmkaa
