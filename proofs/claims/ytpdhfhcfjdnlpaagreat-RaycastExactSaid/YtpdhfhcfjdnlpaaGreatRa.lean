/- Plain mathematics of chapter 18: ray casts. No program is imported. -/
import Derived.Test.YtpdhfhcfjdnlpaaGreatDm
import Derived.Test.YtpdhfhcfjdnlpaaGreatSx
set_option linter.unusedVariables false
namespace Go.Proofs.YtpdhfhcfjdnlpaaGreat
open Fx

/-- What a cast answers. -/
structure Ht where
  t : Int
  x : Int
  y : Int
  b : Bool
def Ht.no : Ht := ⟨0, 0, 0, false⟩
theorem Ht.mk_eq {t x y t' x' y' : Int} {b b' : Bool} (h1 : t = t') (h2 : x = x') (h3 : y = y') (h4 : b = b') : Ht.mk t x y b = ⟨t', x', y', b'⟩ := by subst h1; subst h2; subst h3; subst h4; rfl

/-! ### Circles -/
/-- How far the center is aside, how far it is ahead, and the entry. -/
def ccH (cx cy fx fy gx gy : Int) : Int := cross (unit (sub gx fx) (vlen (sub gx fx) (sub gy fy))) (unit (sub gy fy) (vlen (sub gx fx) (sub gy fy))) (sub cx fx) (sub cy fy)
def ccM (cx cy fx fy gx gy : Int) : Int := dot (sub cx fx) (sub cy fy) (unit (sub gx fx) (vlen (sub gx fx) (sub gy fy))) (unit (sub gy fy) (vlen (sub gx fx) (sub gy fy)))
def ccE (m h r : Int) : Int := sub m (isq (r * r - h * h))
def ccN (c f g t : Int) : Int := sub (lerp f g t) c
def ccX (cx cy fx fy gx gy t : Int) : Int := unit (ccN cx fx gx t) (vlen (ccN cx fx gx t) (ccN cy fy gy t))
def ccY (cx cy fx fy gx gy t : Int) : Int := unit (ccN cy fy gy t) (vlen (ccN cx fx gx t) (ccN cy fy gy t))
def castC (cx cy r fx fy gx gy : Int) : Ht :=
  if vlen (sub gx fx) (sub gy fy) = 0 ∨ r < 0 ∨ 536870911 < r ∨ r < max (ccH cx cy fx fy gx gy) (-ccH cx cy fx fy gx gy) then .no
  else if ccE (ccM cx cy fx fy gx gy) (ccH cx cy fx fy gx gy) r < 0 ∨ vlen (sub gx fx) (sub gy fy) < ccE (ccM cx cy fx fy gx gy) (ccH cx cy fx fy gx gy) r then .no
  else ⟨ratio (ccE (ccM cx cy fx fy gx gy) (ccH cx cy fx fy gx gy) r) (vlen (sub gx fx) (sub gy fy)), ccX cx cy fx fy gx gy (ratio (ccE (ccM cx cy fx fy gx gy) (ccH cx cy fx fy gx gy) r) (vlen (sub gx fx) (sub gy fy))), ccY cx cy fx fy gx gy (ratio (ccE (ccM cx cy fx fy gx gy) (ccH cx cy fx fy gx gy) r) (vlen (sub gx fx) (sub gy fy))), true⟩
theorem castC_1 {cx cy r fx fy gx gy : Int} (h : vlen (sub gx fx) (sub gy fy) = 0 ∨ r < 0 ∨ 536870911 < r ∨ r < max (ccH cx cy fx fy gx gy) (-ccH cx cy fx fy gx gy)) : castC cx cy r fx fy gx gy = .no := by unfold castC; rw [if_pos h]
theorem castC_2 {cx cy r fx fy gx gy : Int} (h : ccE (ccM cx cy fx fy gx gy) (ccH cx cy fx fy gx gy) r < 0 ∨ vlen (sub gx fx) (sub gy fy) < ccE (ccM cx cy fx fy gx gy) (ccH cx cy fx fy gx gy) r) : castC cx cy r fx fy gx gy = .no := by
  unfold castC
  split <;> first | rfl | rw [if_pos h]
theorem castC_3 {cx cy r fx fy gx gy : Int} (h : ¬ (vlen (sub gx fx) (sub gy fy) = 0 ∨ r < 0 ∨ 536870911 < r ∨ r < max (ccH cx cy fx fy gx gy) (-ccH cx cy fx fy gx gy))) (h2 : ¬ (ccE (ccM cx cy fx fy gx gy) (ccH cx cy fx fy gx gy) r < 0 ∨ vlen (sub gx fx) (sub gy fy) < ccE (ccM cx cy fx fy gx gy) (ccH cx cy fx fy gx gy) r)) : castC cx cy r fx fy gx gy = ⟨ratio (ccE (ccM cx cy fx fy gx gy) (ccH cx cy fx fy gx gy) r) (vlen (sub gx fx) (sub gy fy)), ccX cx cy fx fy gx gy (ratio (ccE (ccM cx cy fx fy gx gy) (ccH cx cy fx fy gx gy) r) (vlen (sub gx fx) (sub gy fy))), ccY cx cy fx fy gx gy (ratio (ccE (ccM cx cy fx fy gx gy) (ccH cx cy fx fy gx gy) r) (vlen (sub gx fx) (sub gy fy))), true⟩ := by unfold castC; rw [if_neg h, if_neg h2]
/-- Answers: a fraction in [0, One], or nothing at all. -/
def Ht.ok (h : Ht) : Prop := (h.b = true → 0 ≤ h.t ∧ h.t ≤ 65536) ∧ (h.b = false → h = .no)
theorem Ht.no_ok : Ht.no.ok := ⟨fun h => (by cases h), fun _ => rfl⟩
theorem castC_ok (cx cy r fx fy gx gy : Int) : (castC cx cy r fx fy gx gy).ok := by
  unfold castC
  split
  · exact Ht.no_ok
  · split
    · exact Ht.no_ok
    · exact ⟨fun _ => ratio_in _ _, fun h => by cases h⟩
theorem vlen_00 : vlen 0 0 = 0 := by
  unfold vlen; rw [sat_zero]
  exact isq_eq (by decide) (by decide) (by decide) (by decide) (by decide)
theorem castC_pt (cx cy r fx fy : Int) : castC cx cy r fx fy fx fy = .no := castC_1 (.inl (by rw [sub_self, sub_self]; exact vlen_00))
theorem ccN_ss (c f g t : Int) : ccN c (sat f) (sat g) t = ccN c f g t := by unfold ccN; rw [lerp_ss]
theorem sub_ss (a b : Int) : sub (sat a) (sat b) = sub a b := by unfold sub; rw [sat_sat, sat_sat]
theorem sub_rs (a b : Int) : sub a (sat b) = sub a b := by unfold sub; rw [sat_sat]
theorem sub_ls (a b : Int) : sub (sat a) b = sub a b := by unfold sub; rw [sat_sat]
theorem castC_ss (cx cy r fx fy gx gy : Int) : castC cx cy r (sat fx) (sat fy) (sat gx) (sat gy) = castC cx cy r fx fy gx gy := by
  unfold castC ccX ccY ccH ccM; simp only [sub_ls, sub_rs, ccN_ss]

/-! ### Polygons -/
/-- The largest entry beyond -1 among the first k edges with y < 0, and the normal of the first such edge. -/
def enF (X Y : Nat → Int) (N : Nat → Pt) : Nat → Int × Pt
  | 0 => (-1, 0, 0)
  | k + 1 => if Y k < 0 ∧ (enF X Y N k).1 < quo (X k) (Y k) then (quo (X k) (Y k), N k) else enF X Y N k
/-- The smallest exit, the end of the ray among them. -/
def exF (X Y : Nat → Int) : Nat → Int
  | 0 => 65536
  | k + 1 => if 0 < Y k then min (exF X Y k) (quo (X k) (Y k)) else exF X Y k
/-- The ray runs beside an edge, outside of it. -/
def bdF (X Y : Nat → Int) : Nat → Bool
  | 0 => false
  | k + 1 => bdF X Y k || (decide (Y k = 0) && decide (X k < 0))
def cstF (X Y : Nat → Int) (N : Nat → Pt) (n : Nat) : Ht :=
  if bdF X Y n = true ∨ (enF X Y N n).1 = -1 ∨ exF X Y n < (enF X Y N n).1 then .no else ⟨(enF X Y N n).1, (enF X Y N n).2.1, (enF X Y N n).2.2, true⟩
section
variable {X Y : Nat → Int} {N : Nat → Pt}
theorem en_ge : ∀ k, -1 ≤ (enF X Y N k).1
  | 0 => by show (-1 : Int) ≤ -1; omega
  | k + 1 => by
    have := en_ge k
    show -1 ≤ (if Y k < 0 ∧ (enF X Y N k).1 < quo (X k) (Y k) then (quo (X k) (Y k), N k) else enF X Y N k).1
    split
    · rename_i h; show -1 ≤ quo (X k) (Y k); omega
    · exact this
theorem en_step (k : Nat) : (enF X Y N k).1 ≤ (enF X Y N (k + 1)).1 := by
  show _ ≤ (if Y k < 0 ∧ (enF X Y N k).1 < quo (X k) (Y k) then (quo (X k) (Y k), N k) else enF X Y N k).1
  split
  · rename_i h; show _ ≤ quo (X k) (Y k); omega
  · omega
theorem en_mono {k : Nat} : ∀ {n}, k ≤ n → (enF X Y N k).1 ≤ (enF X Y N n).1
  | 0, h => by obtain rfl : k = 0 := by omega
               exact Int.le_refl _
  | n + 1, h => by
    by_cases e : k = n + 1
    · rw [e]; exact Int.le_refl _
    · have := en_mono (k := k) (n := n) (by omega)
      have := en_step (X := X) (Y := Y) (N := N) n
      omega
theorem ex_step (k : Nat) : exF X Y (k + 1) ≤ exF X Y k := by
  show (if 0 < Y k then min (exF X Y k) (quo (X k) (Y k)) else exF X Y k) ≤ _
  split <;> omega
theorem ex_mono {k : Nat} : ∀ {n}, k ≤ n → exF X Y n ≤ exF X Y k
  | 0, h => by obtain rfl : k = 0 := by omega
               exact Int.le_refl _
  | n + 1, h => by
    by_cases e : k = n + 1
    · rw [e]; exact Int.le_refl _
    · have := ex_mono (k := k) (n := n) (by omega)
      have := ex_step (X := X) (Y := Y) n
      omega
theorem ex_le (n : Nat) : exF X Y n ≤ 65536 := ex_mono (k := 0) (Nat.zero_le _)
theorem bd_mono {k : Nat} (h : bdF X Y k = true) : ∀ {n}, k ≤ n → bdF X Y n = true
  | 0, g => by obtain rfl : k = 0 := by omega
               exact h
  | n + 1, g => by
    by_cases e : k = n + 1
    · rw [← e]; exact h
    · show (bdF X Y n || _) = true
      rw [bd_mono h (n := n) (by omega)]; rfl
theorem bd_at {k : Nat} (h1 : Y k = 0) (h2 : X k < 0) : bdF X Y (k + 1) = true := by
  show (bdF X Y k || (decide (Y k = 0) && decide (X k < 0))) = true
  rw [decide_eq_true h1, decide_eq_true h2, Bool.true_and, Bool.or_true]
theorem bd_no {k : Nat} (h : bdF X Y k = false) (g : ¬ (Y k = 0 ∧ X k < 0)) : bdF X Y (k + 1) = false := by
  show (bdF X Y k || (decide (Y k = 0) && decide (X k < 0))) = false
  rw [h, Bool.false_or]
  by_cases e : Y k = 0
  · rw [decide_eq_false fun c => g ⟨e, c⟩, Bool.and_false]
  · rw [decide_eq_false e, Bool.false_and]
theorem cst_bad {k n : Nat} (h : k < n) (h1 : Y k = 0) (h2 : X k < 0) : cstF X Y N n = .no := by
  unfold cstF; rw [if_pos (.inl (bd_mono (bd_at h1 h2) (by omega)))]
theorem cst_out {k n : Nat} (h : k ≤ n) (h1 : exF X Y k < (enF X Y N k).1) : cstF X Y N n = .no := by
  have a := en_mono (X := X) (Y := Y) (N := N) h
  have b := ex_mono (X := X) (Y := Y) h
  unfold cstF; rw [if_pos (.inr (.inr (by omega)))]
theorem cst_none {n : Nat} (h : (enF X Y N n).1 = -1) : cstF X Y N n = .no := by unfold cstF; rw [if_pos (.inr (.inl h))]
theorem cst_hit {n : Nat} (h : bdF X Y n = false) (h1 : (enF X Y N n).1 ≠ -1) (h2 : (enF X Y N n).1 ≤ exF X Y n) : cstF X Y N n = ⟨(enF X Y N n).1, (enF X Y N n).2.1, (enF X Y N n).2.2, true⟩ := by
  unfold cstF; rw [if_neg]; rintro (c | c | c)
  · rw [h] at c; cases c
  · exact h1 c
  · omega
theorem cst_ok (n : Nat) : (cstF X Y N n).ok := by
  unfold cstF
  split
  · exact Ht.no_ok
  · rename_i h
    have a := en_ge (X := X) (Y := Y) (N := N) n
    have b := ex_le (X := X) (Y := Y) n
    refine ⟨fun _ => ?_, fun h => by cases h⟩
    show 0 ≤ (enF X Y N n).1 ∧ (enF X Y N n).1 ≤ 65536
    omega
theorem en_none {n : Nat} (h : ∀ k, k < n → Y k = 0) : enF X Y N n = (-1, 0, 0) := by
  induction n with
  | zero => rfl
  | succ n ih =>
    show (if Y n < 0 ∧ _ then _ else enF X Y N n) = _
    rw [if_neg (by rw [h n (by omega)]; omega)]
    exact ih fun k hk => h k (by omega)
theorem en_in {k : Nat} (h : Y k < 0) (h2 : (enF X Y N k).1 < quo (X k) (Y k)) : enF X Y N (k + 1) = (quo (X k) (Y k), N k) := if_pos ⟨h, h2⟩
theorem en_no {k : Nat} (h : ¬ (Y k < 0 ∧ (enF X Y N k).1 < quo (X k) (Y k))) : enF X Y N (k + 1) = enF X Y N k := if_neg h
theorem ex_in {k : Nat} (h : 0 < Y k) : exF X Y (k + 1) = min (exF X Y k) (quo (X k) (Y k)) := if_pos h
theorem ex_no {k : Nat} (h : ¬ 0 < Y k) : exF X Y (k + 1) = exF X Y k := if_neg h

/-- How the reference keeps the entry (its edge, -1 ahead of the first) and the exit. -/
def RI (X Y : Nat → Int) (N : Nat → Pt) (k : Nat) (edge entry exit : Int) (out : Bool) : Prop :=
  ((edge = -1 ∧ enF X Y N k = (-1, 0, 0)) ∨ ∃ j : Nat, edge = (j : Int) ∧ j < k ∧ (enF X Y N k).1 = max (-1) entry ∧ (0 ≤ entry → enF X Y N k = (entry, N j))) ∧ ((out = false ∧ exF X Y k = 65536) ∨ (out = true ∧ exF X Y k = min 65536 exit))
theorem ri_zero : RI X Y N 0 (-1) 0 0 false := ⟨.inl ⟨rfl, rfl⟩, .inl ⟨rfl, rfl⟩⟩
theorem ri_par {k : Nat} {edge entry exit : Int} {out : Bool} (h : RI X Y N k edge entry exit out) (hy : Y k = 0) : RI X Y N (k + 1) edge entry exit out := by
  unfold RI
  rw [en_no (by omega), ex_no (by omega)]
  refine ⟨h.1.imp id ?_, h.2⟩
  rintro ⟨j, a, b, c⟩; exact ⟨j, a, by omega, c⟩
theorem ri_in {k : Nat} {edge entry exit : Int} {out : Bool} (h : RI X Y N k edge entry exit out) (hy : Y k < 0) (hq : edge < 0 ∨ entry < quo (X k) (Y k)) : RI X Y N (k + 1) (k : Int) (quo (X k) (Y k)) exit out := by
  unfold RI
  rw [ex_no (by omega)]
  refine ⟨.inr ⟨k, rfl, by omega, ?_, ?_⟩, h.2⟩
  · rcases h.1 with ⟨-, e⟩ | ⟨j, a, -, c, -⟩
    · by_cases g : (enF X Y N k).1 < quo (X k) (Y k)
      · rw [en_in hy g]; rw [e] at g; show quo (X k) (Y k) = _; have : (-1 : Int) < quo (X k) (Y k) := g; omega
      · rw [en_no fun c => g c.2, e]; rw [e] at g; show (-1 : Int) = _; have : ¬ (-1 : Int) < quo (X k) (Y k) := g; omega
    · by_cases g : (enF X Y N k).1 < quo (X k) (Y k)
      · rw [en_in hy g]; show quo (X k) (Y k) = _; omega
      · rw [en_no fun c => g c.2]; omega
  · intro h0
    rcases h.1 with ⟨-, e⟩ | ⟨j, a, -, c, -⟩
    · exact en_in hy (by rw [e]; show (-1 : Int) < _; omega)
    · exact en_in hy (by omega)
theorem ri_in2 {k : Nat} {edge entry exit : Int} {out : Bool} (h : RI X Y N k edge entry exit out) (hy : Y k < 0) (hq : ¬ (edge < 0 ∨ entry < quo (X k) (Y k))) : RI X Y N (k + 1) edge entry exit out := by
  unfold RI
  rw [ex_no (by omega)]
  refine ⟨?_, h.2⟩
  rcases h.1 with ⟨a, -⟩ | ⟨j, a, b, c⟩
  · omega
  · rw [en_no (by omega)]
    exact .inr ⟨j, a, by omega, c⟩
theorem ri_out {k : Nat} {edge entry exit : Int} {out : Bool} (h : RI X Y N k edge entry exit out) (hy : 0 < Y k) (hq : out = false ∨ quo (X k) (Y k) < exit) : RI X Y N (k + 1) edge entry (quo (X k) (Y k)) true := by
  unfold RI
  rw [en_no (by omega), ex_in hy]
  refine ⟨h.1.imp id ?_, .inr ⟨rfl, ?_⟩⟩
  · rintro ⟨j, a, b, c⟩; exact ⟨j, a, by omega, c⟩
  · rcases h.2 with ⟨-, e⟩ | ⟨a, e⟩
    · rw [e]
    · rw [e]; rcases hq with g | g
      · rw [g] at a; cases a
      · omega
theorem ri_out2 {k : Nat} {edge entry exit : Int} {out : Bool} (h : RI X Y N k edge entry exit out) (hy : 0 < Y k) (hq : ¬ (out = false ∨ quo (X k) (Y k) < exit)) : RI X Y N (k + 1) edge entry exit out := by
  unfold RI
  rw [en_no (by omega), ex_in hy]
  refine ⟨h.1.imp id ?_, ?_⟩
  · rintro ⟨j, a, b, c⟩; exact ⟨j, a, by omega, c⟩
  · rcases h.2 with ⟨a, -⟩ | ⟨a, e⟩
    · exact absurd (.inl a) hq
    · exact .inr ⟨a, by rw [e]; omega⟩
theorem ri_none {n : Nat} {edge entry exit : Int} {out : Bool} (h : RI X Y N n edge entry exit out) (hq : edge < 0 ∨ entry < 0 ∨ 65536 < entry ∨ (out = true ∧ exit < entry)) : cstF X Y N n = .no := by
  obtain ⟨h1, h2⟩ := h
  rcases h1 with ⟨-, e⟩ | ⟨j, a, -, c, d⟩
  · exact cst_none (by rw [e])
  by_cases e0 : entry < 0
  · exact cst_none (by rw [c]; omega)
  refine cst_out (Nat.le_refl n) ?_
  rcases h2 with ⟨f, g⟩ | ⟨f, g⟩
  · rcases hq with q | q | q | q
    · omega
    · omega
    · omega
    · rw [f] at q; exact absurd q.1 (by decide)
  · omega
theorem ri_hit {n : Nat} {edge entry exit : Int} {out : Bool} (h : RI X Y N n edge entry exit out) (hb : bdF X Y n = false) (hq : ¬ (edge < 0 ∨ entry < 0 ∨ 65536 < entry ∨ (out = true ∧ exit < entry))) : ∃ j : Nat, edge = (j : Int) ∧ j < n ∧ cstF X Y N n = ⟨entry, (N j).1, (N j).2, true⟩ := by
  obtain ⟨h1, h2⟩ := h
  rcases h1 with ⟨a, -⟩ | ⟨j, a, b, c, d⟩
  · omega
  have e := d (by omega)
  refine ⟨j, a, b, ?_⟩
  rw [cst_hit hb (by rw [e]; show entry ≠ -1; omega) ?_, e]
  rw [e]; show entry ≤ _
  rcases h2 with ⟨f, g⟩ | ⟨f, g⟩
  · omega
  · have : ¬ exit < entry := fun c => hq (.inr (.inr (.inr ⟨f, c⟩)))
    omega
end
def rX (ps : List Pt) (fx fy : Int) (k : Nat) : Int := dot (eNor ps k).1 (eNor ps k).2 (sub (hp' ps k).1 fx) (sub (hp' ps k).2 fy)
def rY (ps : List Pt) (dx dy : Int) (k : Nat) : Int := dot (eNor ps k).1 (eNor ps k).2 dx dy
def castP (ps : List Pt) (fx fy gx gy : Int) : Ht := cstF (rX ps fx fy) (rY ps (sub gx fx) (sub gy fy)) (fun k => eNor ps k) ps.length
theorem dot_00 (x y : Int) : dot x y 0 0 = 0 := by unfold dot; rw [sat_zero, Int.mul_zero, Int.mul_zero]; decide
theorem dot_0 (x y : Int) : dot 0 0 x y = 0 := by unfold dot; rw [sat_zero, Int.zero_mul, Int.zero_mul]; decide
theorem castP_ok (ps : List Pt) (fx fy gx gy : Int) : (castP ps fx fy gx gy).ok := cst_ok _
theorem castP_pt (ps : List Pt) (fx fy : Int) : castP ps fx fy fx fy = .no := by
  unfold castP
  rw [sub_self, sub_self]
  have h : ∀ k, k < ps.length → rY ps 0 0 k = 0 := fun k _ => dot_00 _ _
  exact cst_none (by rw [en_none h])
theorem castP_few {ps : List Pt} (fx fy gx gy : Int) (h : ps.length < 2) : castP ps fx fy gx gy = .no := by
  unfold castP
  have h : ∀ k, k < ps.length → rY ps (sub gx fx) (sub gy fy) k = 0 := fun k _ => by
    unfold rY eNor
    rw [if_neg fun c => by have := c.1; omega]
    exact dot_0 _ _
  exact cst_none (by rw [en_none h])
theorem rX_ss (ps : List Pt) (fx fy : Int) : rX ps (sat fx) (sat fy) = rX ps fx fy := by
  funext k; unfold rX; rw [sub_rs, sub_rs]
theorem castP_ss (ps : List Pt) (fx fy gx gy : Int) : castP ps (sat fx) (sat fy) (sat gx) (sat gy) = castP ps fx fy gx gy := by
  unfold castP; rw [rX_ss, sub_ss, sub_ss]

/-! ### Capsules, shapes -/
/-- The first one of the hits with the smallest fraction. -/
def fst2 (a b : Ht) : Ht := if b.b = true ∧ (a.b = false ∨ b.t < a.t) then b else a
theorem fst2_ok {a b : Ht} (h : a.ok) (g : b.ok) : (fst2 a b).ok := by unfold fst2; split <;> assumption
theorem fst2_no {a : Ht} (h : a.ok) : fst2 .no a = a := by
  unfold fst2
  split
  · rfl
  · rename_i c
    cases e : a.b
    · exact (h.2 e).symm
    · exact absurd ⟨e, .inl rfl⟩ c
def cwX (px py qx qy r : Int) : Int := mul (-sat (unit (sub qy py) (vlen (sub qx px) (sub qy py)))) r
def cwY (px py qx qy r : Int) : Int := mul (sat (unit (sub qx px) (vlen (sub qx px) (sub qy py)))) r
def cw4 (px py qx qy wx wy : Int) : List Pt := [(sub px wx, sub py wy), (sub qx wx, sub qy wy), (add qx wx, add qy wy), (add px wx, add py wy)]
def castK (px py qx qy r fx fy gx gy : Int) : Ht :=
  fst2 (fst2 (castC px py r fx fy gx gy) (castC qx qy r fx fy gx gy)) (castP (cw4 px py qx qy (cwX px py qx qy r) (cwY px py qx qy r)) fx fy gx gy)
theorem castK_ok (px py qx qy r fx fy gx gy : Int) : (castK px py qx qy r fx fy gx gy).ok := fst2_ok (fst2_ok (castC_ok _ _ _ _ _ _ _) (castC_ok _ _ _ _ _ _ _)) (castP_ok _ _ _ _ _)
theorem castK_pt (px py qx qy r fx fy : Int) : castK px py qx qy r fx fy fx fy = .no := by
  unfold castK; rw [castC_pt, castC_pt, castP_pt]; rfl
/-- A cast against a core. -/
def castL (K R : Int) (l : List Pt) (fx fy gx gy : Int) : Ht :=
  if K = 1 then castC (hp' l 0).1 (hp' l 0).2 R fx fy gx gy else if K = 2 then castK (hp' l 0).1 (hp' l 0).2 (hp' l 1).1 (hp' l 1).2 R fx fy gx gy else castP l fx fy gx gy
theorem castL_ok (K R : Int) (l : List Pt) (fx fy gx gy : Int) : (castL K R l fx fy gx gy).ok := by
  unfold castL
  split
  · exact castC_ok _ _ _ _ _ _ _
  · split
    · exact castK_ok _ _ _ _ _ _ _ _ _
    · exact castP_ok _ _ _ _ _
theorem castL_pt (K R : Int) (l : List Pt) (fx fy : Int) : castL K R l fx fy fx fy = .no := by
  unfold castL; rw [castC_pt, castK_pt, castP_pt]; split <;> (try split) <;> rfl
def castS (K R : Int) (ps : List Pt) (px py a fx fy gx gy : Int) : Ht :=
  if valS K R ps = 0 then (if conS K R ps px py a fx fy = true then ⟨0, 0, 0, true⟩ else castL K R (core K R ps px py a) fx fy gx gy) else .no
theorem castS_bad {K R : Int} {ps : List Pt} (px py a fx fy gx gy : Int) (h : ¬ valS K R ps = 0) : castS K R ps px py a fx fy gx gy = .no := if_neg h
theorem castS_in {K R : Int} {ps : List Pt} {px py a fx fy : Int} (gx gy : Int) (h : conS K R ps px py a fx fy = true) : castS K R ps px py a fx fy gx gy = ⟨0, 0, 0, true⟩ := by
  unfold castS
  have : valS K R ps = 0 := by
    unfold conS at h; rw [Bool.and_eq_true] at h; exact of_decide_eq_true h.1
  rw [if_pos this, if_pos h]
theorem castS_to {K R : Int} {ps : List Pt} {px py a fx fy : Int} (gx gy : Int) (hv : valS K R ps = 0) (h : conS K R ps px py a fx fy = false) : castS K R ps px py a fx fy gx gy = castL K R (core K R ps px py a) fx fy gx gy := by
  unfold castS; rw [if_pos hv, h, if_neg (by decide)]
theorem castS_ok (K R : Int) (ps : List Pt) (px py a fx fy gx gy : Int) : (castS K R ps px py a fx fy gx gy).ok := by
  unfold castS
  split
  · split
    · exact ⟨fun _ => ⟨Int.le_refl _, by show (0 : Int) ≤ 65536; omega⟩, fun h => by cases h⟩
    · exact castL_ok _ _ _ _ _ _ _
  · exact Ht.no_ok
/-- A ray of length 0. -/
theorem castS_pt (K R : Int) (ps : List Pt) (px py a fx fy : Int) : castS K R ps px py a fx fy fx fy = ⟨0, 0, 0, conS K R ps px py a fx fy⟩ := by
  cases h : conS K R ps px py a fx fy
  · by_cases hv : valS K R ps = 0
    · rw [castS_to _ _ hv h, castL_pt]; rfl
    · rw [castS_bad _ _ _ _ _ _ _ hv]; rfl
  · exact castS_in _ _ h
theorem castS_val {K R : Int} {ps : List Pt} {px py a fx fy gx gy : Int} (h : (castS K R ps px py a fx fy gx gy).b = true) : valS K R ps = 0 := by
  false_or_by_contra
  rename_i g
  rw [castS_bad _ _ _ _ _ _ _ g] at h
  cases h

/-! ### The example -/
theorem vlen_x {x : Int} (h0 : 0 ≤ x) (h1 : x ≤ 536870911) : vlen x 0 = x ∧ vlen (-x) 0 = x := by
  have hm := mul_between (a := x) (b := x) (A := 536870911) (B := 536870911) (by omega) (by omega) (by omega) (by omega)
  have h2 : (x + 1) * (x + 1) = x * x + 2 * x + 1 := by grind
  have h3 := sq_nn x
  have e : isq (x * x) = x := isq_eq (by omega) (by omega) h0 (Int.le_refl _) (by omega)
  constructor
  · unfold vlen; rw [sat_id (by omega) h1, sat_zero]; simpa using e
  · unfold vlen; rw [sat_id (by omega) (by omega), sat_zero, Int.neg_mul_neg]; simpa using e
theorem ex18 : castS 1 65536 [(0, 0)] 262144 0 0 0 0 393216 0 = ⟨32768, -65536, 0, true⟩ := by
  have hv : valS 1 65536 [(0, 0)] = 0 := valS_circ (by decide) (by decide)
  have e1 : sat 262144 = 262144 := by decide
  have hc : conS 1 65536 [(0, 0)] 262144 0 0 0 0 = false := by
    unfold conS
    rw [map_origin, e1, sat_zero, decide_eq_true hv, Bool.true_and]
    unfold conC
    rw [if_pos rfl, hp_one]
    show decide (vlen (sub 0 262144) (sub 0 0) ≤ 65536) = false
    rw [show sub 0 262144 = -262144 from by decide, show sub 0 0 = 0 from by decide, (vlen_x (x := 262144) (by decide) (by decide)).2]
    decide
  rw [castS_to _ _ hv hc, core_ok _ _ _ hv, map_origin, e1, sat_zero]
  unfold castL
  rw [if_pos rfl, hp_one]
  show castC 262144 0 65536 0 0 393216 0 = _
  have hd : sub 393216 0 = 393216 := by decide
  have h0 : sub 0 0 = 0 := by decide
  have hm : sub 262144 0 = 262144 := by decide
  have hl : vlen 393216 0 = 393216 := (vlen_x (by decide) (by decide)).1
  have hu : unit 393216 393216 = 65536 := by decide
  have hz : unit 0 393216 = 0 := by decide
  have hH : ccH 262144 0 0 0 393216 0 = 0 := by unfold ccH; rw [hd, h0, hm, hl, hu, hz]; decide
  have hM : ccM 262144 0 0 0 393216 0 = 262144 := by unfold ccM; rw [hd, h0, hm, hl, hu, hz]; decide
  have hs : isq (65536 * 65536 - 0 * 0) = 65536 := isq_eq (by decide) (by decide) (by decide) (by decide) (by decide)
  have hE : ccE 262144 0 65536 = 196608 := by unfold ccE; rw [hs]; decide
  have hR : ratio 196608 393216 = 32768 := by decide
  have n1 : ccN 262144 0 393216 32768 = -65536 := by decide
  have n2 : ccN 0 0 0 32768 = 0 := by decide
  have hl2 : vlen (-65536) 0 = 65536 := (vlen_x (x := 65536) (by decide) (by decide)).2
  rw [castC_3 (by rw [hd, h0, hl, hH]; decide) (by rw [hd, h0, hl, hM, hH, hE]; decide)]
  rw [hd, h0, hl, hM, hH, hE, hR]
  unfold ccX ccY
  rw [n1, n2, hl2]
  exact Ht.mk_eq rfl (by decide) (by decide) rfl

end Go.Proofs.YtpdhfhcfjdnlpaaGreat
