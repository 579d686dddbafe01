/- Plain mathematics of chapter 19: the bound of a motion, conservative advancement. No program is imported. -/
import Derived.Test.YtipcbcngedpmkaaGreatDm
set_option linter.unusedVariables false
namespace Go.Proofs.YtipcbcngedpmkaaGreat
open Fx

/-- A shape that moves from one transform to another. -/
structure Tv where
  K : Int
  R : Int
  ps : List Pt
  px : Int
  py : Int
  pa : Int
  ux : Int
  uy : Int
  ua : Int
def Tv.ok (m : Tv) : Prop := valS m.K m.R m.ps = 0
def Tv.mb (m : Tv) : Int := if valS m.K m.R m.ps = 0 then add (add (vlen (sub m.ux m.px) (sub m.uy m.py)) (mul (iabs (dif m.pa m.ua)) (bradS m.K m.R m.ps))) 4 else 0
def Tv.x (m : Tv) (t : Int) : Int := lerp m.px m.ux t
def Tv.y (m : Tv) (t : Int) : Int := lerp m.py m.uy t
def Tv.a (m : Tv) (t : Int) : Int := tang m.pa (mul (dif m.pa m.ua) t)
/-- The distance at a time. -/
def tvg (m n : Tv) (t : Int) : Int := sepS m.K m.R m.ps (m.x t) (m.y t) (m.a t) n.K n.R n.ps (n.x t) (n.y t) (n.a t)

def stp (g : Int → Int) (M t : Int) : Int := t + max 1 ((g t * 65536).tdiv M)
/-- The advancement with this many iterations left. -/
def adv (g : Int → Int) (M : Int) : Nat → Int → Int × Bool
  | 0, t => (t, true)
  | k + 1, t => if g t ≤ 512 then (t, true) else if 65536 < stp g M t then (0, false) else adv g M k (stp g M t)
def toiS (m n : Tv) : Int × Bool := if valS m.K m.R m.ps = 0 ∧ valS n.K n.R n.ps = 0 then adv (tvg m n) (2 * (m.mb + n.mb)) 40 0 else (0, false)

theorem toiS_bad {m n : Tv} (h : ¬ (valS m.K m.R m.ps = 0 ∧ valS n.K n.R n.ps = 0)) : toiS m n = (0, false) := if_neg h
theorem toiS_ok {m n : Tv} (h : valS m.K m.R m.ps = 0) (h' : valS n.K n.R n.ps = 0) : toiS m n = adv (tvg m n) (2 * (m.mb + n.mb)) 40 0 := if_pos ⟨h, h'⟩

theorem adv_0 (g : Int → Int) (M t : Int) : adv g M 0 t = (t, true) := rfl
theorem adv_hit {g : Int → Int} {t : Int} (M : Int) (k : Nat) (h : g t ≤ 512) : adv g M (k + 1) t = (t, true) := by unfold adv; rw [if_pos h]
theorem adv_out {g : Int → Int} {M t : Int} (k : Nat) (h : ¬ g t ≤ 512) (h2 : 65536 < stp g M t) : adv g M (k + 1) t = (0, false) := by
  unfold adv; rw [if_neg h, if_pos h2]
theorem adv_go {g : Int → Int} {M t : Int} (k : Nat) (h : ¬ g t ≤ 512) (h2 : ¬ 65536 < stp g M t) : adv g M (k + 1) t = adv g M k (stp g M t) := by
  rw [adv, if_neg h, if_neg h2]
theorem stp_gt (g : Int → Int) (M t : Int) : t < stp g M t := by unfold stp; omega
theorem adv_in (g : Int → Int) (M : Int) : ∀ (k : Nat) (t : Int), 0 ≤ t → t ≤ 65536 → (0 ≤ (adv g M k t).1 ∧ (adv g M k t).1 ≤ 65536) ∧ ((adv g M k t).2 = false → (adv g M k t).1 = 0)
  | 0, t, h0, h1 => ⟨⟨h0, h1⟩, fun h => by cases h⟩
  | k + 1, t, h0, h1 => by
    by_cases h : g t ≤ 512
    · rw [adv_hit M k h]; exact ⟨⟨h0, h1⟩, fun h => by cases h⟩
    · by_cases h2 : 65536 < stp g M t
      · rw [adv_out k h h2]; exact ⟨⟨by decide, by decide⟩, fun _ => rfl⟩
      · rw [adv_go k h h2]
        have := stp_gt g M t
        exact adv_in g M k _ (by omega) (by omega)
theorem adv_congr {g g' : Int → Int} {M : Int} (he : ∀ t, 0 ≤ t → t ≤ 65536 → g t = g' t) : ∀ (k : Nat) (t : Int), 0 ≤ t → t ≤ 65536 → adv g M k t = adv g' M k t
  | 0, t, h0, h1 => rfl
  | k + 1, t, h0, h1 => by
    have e1 := he t h0 h1
    have e2 : stp g M t = stp g' M t := by unfold stp; rw [e1]
    by_cases h : g t ≤ 512
    · rw [adv_hit M k h, adv_hit M k (by rw [← e1]; exact h)]
    · by_cases h2 : 65536 < stp g M t
      · rw [adv_out k h h2, adv_out k (by rw [← e1]; exact h) (by rw [← e2]; exact h2)]
      · rw [adv_go k h h2, adv_go k (by rw [← e1]; exact h) (by rw [← e2]; exact h2), ← e2]
        have := stp_gt g M t
        exact adv_congr he k _ (by omega) (by omega)

theorem mb_in {m : Tv} (h : valS m.K m.R m.ps = 0) : 4 ≤ m.mb ∧ m.mb ≤ 536870911 := by
  unfold Tv.mb
  rw [if_pos h]
  have h1 := (vlen_is (sub m.ux m.px) (sub m.uy m.py)).1
  have hR := val_rad h
  have h2 : 0 ≤ mul (iabs (dif m.pa m.ua)) (bradS m.K m.R m.ps) := by
    have b0 : 0 ≤ bradS m.K m.R m.ps := by
      unfold bradS
      rw [if_pos h]
      have f0 : ∀ (l : List Pt) (s : Int), 0 ≤ s → 0 ≤ l.foldl (fun m p => max m (vlen p.1 p.2)) s := fun l => by
        induction l with
        | nil => intro s hs; exact hs
        | cons p l ih => intro s hs; exact ih _ (by show 0 ≤ max s _; omega)
      have := f0 m.ps 0 (by omega)
      have : 0 ≤ far m.ps := this
      unfold add sat
      split <;> (try split) <;> (try split) <;> (try split) <;> omega
    have a0 : 0 ≤ iabs (dif m.pa m.ua) := by unfold iabs; split <;> omega
    generalize iabs (dif m.pa m.ua) = u at *
    generalize bradS m.K m.R m.ps = v at *
    unfold mul
    have su : 0 ≤ sat u := by unfold sat; split <;> (try split) <;> omega
    have sv : 0 ≤ sat v := by unfold sat; split <;> (try split) <;> omega
    have p0 := Int.mul_nonneg su sv
    have p1 := satmul u v
    rw [rdiv_in (by decide) (by decide) (by omega) (by omega)]
    generalize sat u * sat v = w at *
    unfold rcore
    rw [if_neg (by omega)]
    have := (rpos_bounds p0 (show (1 : Int) ≤ 65536 by decide)).1
    generalize rpos w 65536 = z at *
    unfold sat; split <;> (try split) <;> omega
  generalize vlen (sub m.ux m.px) (sub m.uy m.py) = u at *
  generalize mul (iabs (dif m.pa m.ua)) (bradS m.K m.R m.ps) = v at *
  have h3 : 0 ≤ add u v := by unfold add sat; split <;> (try split) <;> (try split) <;> (try split) <;> omega
  generalize add u v = z at *
  unfold add
  rw [show sat 4 = 4 from by decide]
  unfold sat
  split <;> (try split) <;> (try split) <;> omega
theorem mb_bad {m : Tv} (h : ¬ valS m.K m.R m.ps = 0) : m.mb = 0 := if_neg h

theorem tvg_in (m n : Tv) (t : Int) : 0 ≤ tvg m n t ∧ tvg m n t ≤ 536870911 := by
  refine ⟨sepS_nn _ _ _ _ _ _ _ _ _ _ _ _, ?_⟩
  unfold tvg sepS sepC
  split
  · split
    · decide
    · have := sat_le (sat (sub (gap (m.ps.map (tr (m.x t) (m.y t) (m.a t))) (n.ps.map (tr (n.x t) (n.y t) (n.a t)))) m.R) - sat n.R)
      unfold sub at this ⊢
      omega
  · omega

theorem tvg_comm (m n : Tv) : tvg n m = tvg m n := by funext t; exact sepS_comm _ _ _ _ _ _ _ _ _ _ _ _
theorem toiS_comm (m n : Tv) : toiS n m = toiS m n := by
  unfold toiS
  rw [tvg_comm m n, Int.add_comm n.mb m.mb]
  by_cases h : valS m.K m.R m.ps = 0 ∧ valS n.K n.R n.ps = 0
  · rw [if_pos h, if_pos h.symm]
  · rw [if_neg h, if_neg fun g => h g.symm]
theorem toiS_in (m n : Tv) : (0 ≤ (toiS m n).1 ∧ (toiS m n).1 ≤ 65536) ∧ ((toiS m n).2 = false → (toiS m n).1 = 0) := by
  unfold toiS
  split
  · exact adv_in _ _ 40 0 (by decide) (by decide)
  · exact ⟨⟨by decide, by decide⟩, fun _ => rfl⟩
theorem toiS_start {m n : Tv} (h : valS m.K m.R m.ps = 0) (h' : valS n.K n.R n.ps = 0) (g : tvg m n 0 ≤ 512) : toiS m n = (0, true) := by
  rw [toiS_ok h h']; exact adv_hit _ 39 g

/-- Shapes that do not move. -/
def Tv.rest (m : Tv) : Tv := ⟨m.K, m.R, m.ps, m.px, m.py, m.pa, m.px, m.py, m.pa⟩
theorem sub_self' (x : Int) : sub x x = 0 := by unfold sub; rw [Int.sub_self]; decide
theorem vlen_00 : vlen 0 0 = 0 := by
  unfold vlen; rw [show sat 0 = 0 from by decide]
  exact isq_eq (by decide) (by decide) (by decide) (by decide) (by decide)
theorem rest_mb {m : Tv} (h : valS m.K m.R m.ps = 0) : m.rest.mb = 4 := by
  unfold Tv.mb Tv.rest
  dsimp only
  rw [if_pos h, sub_self', sub_self', vlen_00, dif_self, show iabs 0 = 0 from by decide, zero_mul']
  decide
theorem lerp_self (x t : Int) : lerp x x t = lerp x x 0 := by unfold lerp; rw [sub_self', zero_mul', zero_mul']
theorem rest_x (m : Tv) (t : Int) : m.rest.x t = m.rest.x 0 := lerp_self _ _
theorem rest_y (m : Tv) (t : Int) : m.rest.y t = m.rest.y 0 := lerp_self _ _
theorem rest_a (m : Tv) (t : Int) : m.rest.a t = m.rest.a 0 := by
  unfold Tv.a Tv.rest; dsimp only; rw [dif_self, zero_mul', zero_mul']
theorem rest_g (m n : Tv) (t : Int) : tvg m.rest n.rest t = tvg m.rest n.rest 0 := by
  unfold tvg; rw [rest_x m t, rest_y m t, rest_a m t, rest_x n t, rest_y n t, rest_a n t]
theorem toiS_rest {m n : Tv} (h : valS m.K m.R m.ps = 0) (h' : valS n.K n.R n.ps = 0) : toiS m.rest n.rest = (0, decide (tvg m.rest n.rest 0 ≤ 512)) := by
  by_cases g : tvg m.rest n.rest 0 ≤ 512
  · rw [decide_eq_true g]; exact toiS_start h h' g
  · rw [decide_eq_false g, toiS_ok (m := m.rest) (n := n.rest) h h', rest_mb h, rest_mb h']
    refine adv_out 39 g ?_
    unfold stp
    have := tvg_in m.rest n.rest 0
    generalize tvg m.rest n.rest 0 = G at *
    have e : (G * 65536).tdiv (2 * (4 + 4)) = G * 4096 := by
      rw [Int.tdiv_eq_ediv_of_nonneg (by omega)]; omega
    rw [e]; omega

/-! ### The example -/
theorem ex19_gap (d : Int) (h0 : 0 ≤ d) (h1 : d ≤ 393216) : gap [(0, 0)] [(d, 0)] = d := by
  unfold gap
  show min 536870911 (sgd [(0, 0)] [(d, 0)] 0 0) = d
  unfold sgd
  simp only [hp_one]
  rw [sdist_point]
  have e : dist2 0 0 d 0 = d * d := by unfold dist2; rw [show sat 0 = 0 from by decide, sat_id (by omega) (by omega)]; grind
  have hd : isq (d * d) = d := by
    have hm := mul_between (a := d) (b := d) (A := 393216) (B := 393216) (by omega) (by omega) (by omega) (by omega)
    have h2 : (d + 1) * (d + 1) = d * d + 2 * d + 1 := by grind
    exact isq_eq (by have := sq_nn d; omega) (by omega) h0 (Int.le_refl _) (by omega)
  split
  · rename_i h
    have := (isct_point h).1
    rw [show sat 0 = 0 from by decide, sat_id (by omega) (by omega)] at this
    omega
  · rw [e, hd, sat_id (by omega) (by omega)]; omega
theorem ex19_sep (q pa qa : Int) (h0 : 0 ≤ q) (h1 : q ≤ 393216) : sepS 1 65536 [(0, 0)] 0 0 pa 1 65536 [(0, 0)] q 0 qa = max 0 (q - 131072) := by
  unfold sepS
  rw [if_pos ⟨valS_circ (by decide) (by decide), valS_circ (by decide) (by decide)⟩, map_origin, map_origin]
  unfold sepC
  rw [show ∀ l p, inpol 1 l p = false from fun _ _ => rfl, show ∀ l p, inpol 1 l p = false from fun _ _ => rfl, if_neg (by decide), sub_gap2 (gap_in _ _) ⟨by decide, by decide⟩ ⟨by decide, by decide⟩]
  rw [show sat 0 = 0 from by decide, sat_id (by omega) (by omega), ex19_gap q (by omega) h1]; omega
/-- The ball at rest and the ball that comes. -/
def exO : Tv := ⟨1, 65536, [(0, 0)], 0, 0, 0, 0, 0, 0⟩
def exM : Tv := ⟨1, 65536, [(0, 0)], 393216, 0, 0, 0, 0, 0⟩
def exF : Tv := ⟨1, 65536, [(0, 0)], 393216, 0, 0, 393216, 0, 0⟩
def exB : Tv := ⟨1, 65536, [(0, 0)], 0, 0, 0, 393216, 0, 0⟩
theorem ex_val : valS 1 65536 [(0, 0)] = 0 := valS_circ (by decide) (by decide)
theorem vlen_6 (x : Int) (h : sat x * sat x = 154618822656) : vlen x 0 = 393216 := by
  unfold vlen; rw [h, show sat 0 = 0 from by decide]
  exact isq_eq (by decide) (by decide) (by decide) (by decide) (by decide)
theorem exO_mb : exO.mb = 4 := rest_mb (m := exO) ex_val
theorem exF_mb : exF.mb = 4 := rest_mb (m := exF) ex_val
theorem exM_mb : exM.mb = 393220 := by
  unfold Tv.mb exM
  dsimp only
  rw [if_pos ex_val, sub_self', vlen_6 _ (by decide), dif_self, show iabs 0 = 0 from by decide, zero_mul']
  decide
theorem exB_mb : exB.mb = 393220 := by
  unfold Tv.mb exB
  dsimp only
  rw [if_pos ex_val, sub_self', vlen_6 _ (by decide), dif_self, show iabs 0 = 0 from by decide, zero_mul']
  decide
theorem lerp_00 (t : Int) : lerp 0 0 t = 0 := by unfold lerp; rw [sub_self', zero_mul']; decide
theorem exM_g (t : Int) (h0 : 0 ≤ t) (h1 : t ≤ 65536) : tvg exO exM t = max 0 (lerp 393216 0 t - 131072) := by
  unfold tvg exO exM Tv.x Tv.y Tv.a
  dsimp only
  rw [lerp_00]
  have g := lerp_between (a := 393216) (b := 0) h0 h1
  rw [show sat 393216 = 393216 from by decide, show sat 0 = 0 from by decide] at g
  exact ex19_sep _ _ _ (by omega) (by omega)
theorem exM_toi : toiS exO exM = (43647, true) := by
  rw [toiS_ok (m := exO) (n := exM) ex_val ex_val, exO_mb, exM_mb, adv_congr exM_g 40 0 (by decide) (by decide)]
  decide +kernel
theorem exF_toi : toiS exO exF = (0, false) := by
  have h := toiS_rest (m := exO) (n := exF) ex_val ex_val
  have e : tvg exO.rest exF.rest 0 = 262144 := by
    unfold tvg Tv.rest exO exF Tv.x Tv.y Tv.a
    dsimp only
    rw [lerp_00, show lerp 393216 393216 0 = 393216 from by decide, ex19_sep _ _ _ (by decide) (by decide)]
    decide
  rw [e] at h
  exact h

end Go.Proofs.YtipcbcngedpmkaaGreat
