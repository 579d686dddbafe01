/- Chapter 16: the functions that the contracts of package manifold and of its reference speak of. -/
import Derived.Test.YtiecpebckmihgaaGreatFixRA
import Derived.Test.YtiecpebckmihgaaGreatMf
import Derived.Test.YtiecpebckmihgaaGreatSh1
set_option linter.unusedVariables false
namespace Go.Proofs.YtiecpebckmihgaaGreat
open Go.RowKit Fx

structure Mn where
  nx : Int
  ny : Int
  l : List Cnt
def mz : Mn := ⟨0, 0, []⟩
def ng (x : Int) : Int := IntKind.i64.wrap (-x)
def Mn.flip (m : Mn) : Mn := ⟨ng m.nx, ng m.ny, m.l⟩
def Mn.nz (m : Mn) : Mn := if m.l = [] then mz else m
def oneM (nx ny x y gap : Int) : Mn := ⟨nx, ny, if 1024 < gap then [] else [⟨x, y, gap, 0, 0, 0⟩]⟩
def segD (p : Pp) : Pt := (sub p.qx p.px, sub p.qy p.py)
def segN (d : Pt) : Pt := if vlen d.1 d.2 = 0 then (0, 65536) else (unit d.1 (vlen d.1 d.2), unit d.2 (vlen d.1 d.2))
def segG (d : Pt) (r s : Int) : Int := sub (sub (vlen d.1 d.2) r) s
def segM (p : Pp) (r s : Int) : Mn :=
  oneM (segN (segD p)).1 (segN (segD p)).2 (add p.px (mul (segN (segD p)).1 (add r (rdiv (segG (segD p) r s) 2)))) (add p.py (mul (segN (segD p)).2 (add r (rdiv (segG (segD p) r s) 2)))) (segG (segD p) r s)
def cpE (a : List Pt) (cx cy : Int) (k : Nat) : Pt :=
  (cpc (cpt (hp' a k).1 (hp' a k).2 (hp' a (k + 1)).1 (hp' a (k + 1)).2 cx cy) (hp' a k).1 (hp' a (k + 1)).1, cpc (cpt (hp' a k).1 (hp' a k).2 (hp' a (k + 1)).1 (hp' a (k + 1)).2 cx cy) (hp' a k).2 (hp' a (k + 1)).2)
def cloE (a : List Pt) (cx cy : Int) : Nat → Pt
  | 0 => cpE a cx cy 0
  | k + 1 => if dist2 (cpE a cx cy (k + 1)).1 (cpE a cx cy (k + 1)).2 cx cy < dist2 (cloE a cx cy k).1 (cloE a cx cy k).2 cx cy then cpE a cx cy (k + 1) else cloE a cx cy k
def polD (a : List Pt) (cx cy : Int) : Pt := (sub cx (cloE a cx cy (a.length - 1)).1, sub cy (cloE a cx cy (a.length - 1)).2)
def polG (a : List Pt) (cx cy : Int) : Int := if 0 < (msep a [(cx, cy)]).2 then vlen (polD a cx cy).1 (polD a cx cy).2 else (msep a [(cx, cy)]).2
def polN (a : List Pt) (cx cy : Int) : Pt := if 0 < (msep a [(cx, cy)]).2 ∧ vlen (polD a cx cy).1 (polD a cx cy).2 ≠ 0 then (unit (polD a cx cy).1 (vlen (polD a cx cy).1 (polD a cx cy).2), unit (polD a cx cy).2 (vlen (polD a cx cy).1 (polD a cx cy).2)) else eNor a (msep a [(cx, cy)]).1
def ptO (nx ny c_x c_y g s : Int) : Pt := (sub c_x (mul nx (rdiv (add g s) 2)), sub c_y (mul ny (rdiv (add g s) 2)))
def polM (a : List Pt) (cx cy s : Int) : Mn :=
  oneM (polN a cx cy).1 (polN a cx cy).2 (ptO (polN a cx cy).1 (polN a cx cy).2 cx cy (polG a cx cy) s).1 (ptO (polN a cx cy).1 (polN a cx cy).2 cx cy (polG a cx cy) s).2 (sub (polG a cx cy) s)
def fcG (nx ny ax ay r : Int) (v : Vtx) : Int := sub (dot nx ny (sub v.x ax) (sub v.y ay)) r
def fcP (nx ny ax ay r s base : Int) (v : Vtx) : List Cnt :=
  if 1024 < sub (fcG nx ny ax ay r v) s then [] else [⟨(ptO nx ny v.x v.y (fcG nx ny ax ay r v) s).1, (ptO nx ny v.x v.y (fcG nx ny ax ay r v) s).2, sub (fcG nx ny ax ay r v) s, base + v.id, 0, 0⟩]
def fcL (nx ny ax ay r s base : Int) (l : List Vtx) : List Cnt := l.flatMap (fcP nx ny ax ay r s base)
def facM (a : List Pt) (i r : Int) (b : List Pt) (s base : Int) : Mn :=
  ⟨(eNor a i).1, (eNor a i).2, fcL (eNor a i).1 (eNor a i).2 (hp' a i.toNat).1 (hp' a i.toNat).2 r s (base + 64 * i + 8 * inc b (eNor a i).1 (eNor a i).2) (toE a i b (inc b (eNor a i).1 (eNor a i).2))⟩
def facesM (a : List Pt) (r : Int) (b : List Pt) (s : Int) : Mn :=
  if 1024 < sub (sub (max (msep a b).2 (msep b a).2) r) s then mz
  else if add (msep a b).2 64 < (msep b a).2 then (facM b (msep b a).1 s a r 4096).flip else facM a (msep a b).1 r b s 0
def colC (K R : Int) (a : List Pt) (K' R' : Int) (b : List Pt) : Mn :=
  if K ≠ 3 ∧ K' ≠ 3 then segM (cps (hp' a 0).1 (hp' a 0).2 (hp' a (a.length - 1)).1 (hp' a (a.length - 1)).2 (hp' b 0).1 (hp' b 0).2 (hp' b (b.length - 1)).1 (hp' b (b.length - 1)).2) R R'
  else if K' = 1 then polM a (hp' b 0).1 (hp' b 0).2 R'
  else if K = 1 then (polM b (hp' a 0).1 (hp' a 0).2 R).flip
  else facesM a R b R'
def col (K R : Int) (ps : List Pt) (px py pa : Int) (K' R' : Int) (qs : List Pt) (qx qy qa : Int) : Mn :=
  if valS K R ps = 0 ∧ valS K' R' qs = 0 then (colC K R (ps.map (tr px py pa)) K' R' (qs.map (tr qx qy qa))).nz else mz

theorem ng_zero : ng 0 = 0 := by decide
theorem flip_mz : mz.flip = mz := by unfold Mn.flip mz; rw [ng_zero]
theorem nz_flip (m : Mn) : m.flip.nz = m.nz.flip := by
  unfold Mn.nz
  by_cases h : m.l = []
  · rw [if_pos h, if_pos (show m.flip.l = [] from h), flip_mz]
  · rw [if_neg h, if_neg (show ¬ m.flip.l = [] from h)]
theorem nz_mz : mz.nz = mz := if_pos rfl
theorem nz_l (m : Mn) : m.nz.l = m.l := by
  unfold Mn.nz; split
  · rename_i h; rw [h]; rfl
  · rfl
theorem nz_nil {m : Mn} (h : m.l = []) : m.nz = mz := if_pos h
theorem nz_pos {m : Mn} (h : m.l ≠ []) : m.nz = m := if_neg h
def Mn.ok (m : Mn) : Prop := (∀ c ∈ m.l, c.sep ≤ 1024 ∧ c.ni = 0 ∧ c.ti = 0) ∧ (m.l = [] ∨ (∃ c, m.l = [c]) ∨ ∃ c d, m.l = [c, d] ∧ c.id ≠ d.id)
theorem ok_mz : mz.ok := ⟨fun c h => absurd h (List.not_mem_nil), .inl rfl⟩
theorem ok_flip {m : Mn} (h : m.ok) : m.flip.ok := h
theorem ok_nz {m : Mn} (h : m.ok) : m.nz.ok := by
  unfold Mn.nz; split
  · exact ok_mz
  · exact h
theorem ok_one (nx ny x y gap : Int) : (oneM nx ny x y gap).ok := by
  unfold oneM Mn.ok
  dsimp only
  split
  · exact ⟨fun c h => by simp at h, .inl rfl⟩
  · refine ⟨fun c h => ?_, .inr (.inl ⟨_, rfl⟩)⟩
    rw [List.mem_singleton] at h; subst h; exact ⟨by dsimp only; omega, rfl, rfl⟩
theorem fcP_ok (nx ny ax ay r s base : Int) (v : Vtx) : fcP nx ny ax ay r s base v = [] ∨ ∃ c, fcP nx ny ax ay r s base v = [c] ∧ c.sep ≤ 1024 ∧ c.ni = 0 ∧ c.ti = 0 ∧ c.id = base + v.id := by
  unfold fcP; split
  · exact .inl rfl
  · exact .inr ⟨_, rfl, by dsimp only; omega, rfl, rfl, rfl⟩
theorem ok_fac (a : List Pt) (i r : Int) (b : List Pt) (s base : Int) : (facM a i r b s base).ok := by
  unfold facM Mn.ok fcL
  dsimp only
  generalize (eNor a i).1 = nx at *
  generalize (eNor a i).2 = ny at *
  rcases toE_len a i b (inc b nx ny) with h | ⟨v, u, h, h1, h2⟩
  · rw [h]; exact ⟨fun c h => by simp at h, .inl rfl⟩
  · rw [h]
    simp only [List.flatMap_cons, List.flatMap_nil, List.append_nil]
    rcases fcP_ok nx ny (hp' a i.toNat).1 (hp' a i.toNat).2 r s (base + 64 * i + 8 * inc b nx ny) v with e1 | ⟨c, e1, k1, k2, k3, k4⟩ <;>
    rcases fcP_ok nx ny (hp' a i.toNat).1 (hp' a i.toNat).2 r s (base + 64 * i + 8 * inc b nx ny) u with e2 | ⟨d, e2, m1, m2, m3, m4⟩ <;> rw [e1, e2]
    · exact ⟨fun c h => by simp at h, .inl rfl⟩
    · exact ⟨fun x hx => by simp at hx; subst hx; exact ⟨m1, m2, m3⟩, .inr (.inl ⟨_, rfl⟩)⟩
    · exact ⟨fun x hx => by simp at hx; subst hx; exact ⟨k1, k2, k3⟩, .inr (.inl ⟨_, rfl⟩)⟩
    · exact ⟨fun x hx => by simp at hx; exact hx.elim (fun e => e ▸ ⟨k1, k2, k3⟩) (fun e => e ▸ ⟨m1, m2, m3⟩), .inr (.inr ⟨_, _, rfl, by omega⟩)⟩
theorem ok_colC (K R : Int) (a : List Pt) (K' R' : Int) (b : List Pt) : (colC K R a K' R' b).ok := by
  unfold colC; split
  · exact ok_one _ _ _ _ _
  · split
    · exact ok_one _ _ _ _ _
    · split
      · exact ok_flip (ok_one _ _ _ _ _)
      · unfold facesM; split
        · exact ok_mz
        · split
          · exact ok_flip (ok_fac _ _ _ _ _ _)
          · exact ok_fac _ _ _ _ _ _
theorem ok_col (K R : Int) (ps : List Pt) (px py pa : Int) (K' R' : Int) (qs : List Pt) (qx qy qa : Int) : (col K R ps px py pa K' R' qs qx qy qa).ok := by
  unfold col; split
  · exact ok_nz (ok_colC _ _ _ _ _ _)
  · exact ok_mz

theorem mul_neg (a b : Int) : mul a (-b) = -mul a b := by
  unfold mul; rw [sat_neg, Int.mul_neg, Fx.rdiv_neg, sat_neg]
theorem add_neg (a b : Int) : add a (-b) = sub a b := by
  unfold add sub; rw [sat_neg]; rfl
theorem add_back (a b c : Int) : add a (mul b (-c)) = sub a (mul b c) := by rw [mul_neg, add_neg]
theorem half_in {x : Int} (h : -536870911 ≤ x ∧ x ≤ 536870911) : -536870911 ≤ rdiv x 2 ∧ rdiv x 2 ≤ 536870911 := by
  have := rdiv_lo (q := 0) (n := x) (d := 2) (by omega) (by omega) (by omega) (by omega)
  omega
theorem add_rng (a b : Int) : -536870911 ≤ add a b ∧ add a b ≤ 536870911 := ⟨sat_ge _, sat_le _⟩
theorem vlen_zero (x y : Int) : vlen x y = 0 ↔ x = 0 ∧ y = 0 := by
  obtain ⟨k0, k1, k2, k3⟩ := vlen_is x y
  constructor
  · intro h
    rw [h] at k3
    have s1 := sq_nn (sat x); have s2 := sq_nn (sat y)
    have z1 : sat x = 0 := by rcases Int.mul_eq_zero.1 (show sat x * sat x = 0 by omega) with h | h <;> exact h
    have z2 : sat y = 0 := by rcases Int.mul_eq_zero.1 (show sat y * sat y = 0 by omega) with h | h <;> exact h
    exact ⟨(sat_zero_iff x).1 z1, (sat_zero_iff y).1 z2⟩
  · rintro ⟨rfl, rfl⟩; rw [sat_zero] at k2
    rcases Int.mul_eq_zero.1 (show vlen 0 0 * vlen 0 0 = 0 by have := sq_nn (vlen 0 0); omega) with h | h <;> exact h
theorem sub_zero_iff {a b : Int} (ha : sat a = a) (hb : sat b = b) : sub a b = 0 ↔ a = b := by
  unfold sub; rw [sat_zero_iff, ha, hb]; omega

def shiftP (c : Cnt) : Cnt := { c with id := c.id + 4096 }
theorem fcL_shift (nx ny ax ay r s base : Int) (l : List Vtx) : (fcL nx ny ax ay r s base l).map shiftP = fcL nx ny ax ay r s (4096 + base) l := by
  unfold fcL
  rw [List.map_flatMap]
  congr 1; funext v
  unfold fcP
  split
  · rfl
  · simp only [List.map_cons, List.map_nil, shiftP]; congr 2; omega
theorem facM_shift (a : List Pt) (i r : Int) (b : List Pt) (s : Int) : (facM a i r b s 4096) = { facM a i r b s 0 with l := (facM a i r b s 0).l.map shiftP } := by
  unfold facM
  dsimp only
  rw [fcL_shift]
  congr 2
  omega

end Go.Proofs.YtiecpebckmihgaaGreat
