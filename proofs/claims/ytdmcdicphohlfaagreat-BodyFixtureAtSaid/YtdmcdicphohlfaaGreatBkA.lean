/- Chapter 23: bodies: what their functions compute. No function of the program is spoken of. -/
import Derived.Test.YtdmcdicphohlfaaGreatBh1
set_option linter.unusedVariables false
set_option linter.unusedSimpArgs false
namespace Go.Proofs.YtdmcdicphohlfaaGreat
open Go.RowKit Fx

def matB (f : Fxr) : Bool := bet f.D 0 262144 && bet f.F 0 131072 && bet f.E 0 65536
def filB (f : Fxr) : Bool := bet f.cat 0 65535 && bet f.msk 0 65535 && bet f.grp (-32) 32
def fxV (f : Fxr) : Int := if valS f.K f.R f.ps ≠ 0 then valS f.K f.R f.ps else if matB f && filB f then 0 else 6
def motB (b : Bdy) : Bool := tval b.px b.py b.pa && (bet b.vx (-16777216) 16777216 && bet b.vy (-16777216) 16777216) && bet b.av (-4194304) 4194304 && (bet b.fx (-536870911) 536870911 && bet b.fy (-536870911) 536870911) && bet b.tq (-536870911) 536870911
def parB (b : Bdy) : Bool := bet b.i 1 1099511627776 && bet b.ld 0 65536 && bet b.ad 0 65536 && bet b.gs (-262144) 262144 && bet b.idl 0 1048576
def movB (b : Bdy) : Bool := b.vx != 0 || b.vy != 0 || b.av != 0
def pulB (b : Bdy) : Bool := b.fx != 0 || b.fy != 0 || b.tq != 0
def suitB (b : Bdy) : Bool := !(b.k == 1 && (movB b || pulB b)) && (b.k == 3 || !b.asl && !b.bul)
def bdV (b : Bdy) : Int := if known b.k = false then 10 else if (motB b && parB b) = false then 6 else if 4 < b.fs.length then 11 else if (b.fs.any fun f => fxV f != 0) = true then 13 else if (!suitB b || (b.asl && movB b)) = true then 14 else 0

def fx0 (f : Fxr) : Fxr := { f with A := none, cap := 0 }
def bd0 (b : Bdy) : Bdy := { b with A := none, cap := 0, fs := b.fs.map fx0 }

theorem fx0_prt {l m : List Fxr} (h : l.map fx0 = m.map fx0) : prt l = prt m := by
  have e : ∀ l : List Fxr, prt l = prt (l.map fx0) := by
    intro l
    unfold prt
    rw [List.filter_map, List.map_map]
    rfl
  rw [e l, e m, h]
theorem map_len {l m : List Fxr} (h : l.map fx0 = m.map fx0) : l.length = m.length := by
  have := congrArg List.length h
  simpa using this
theorem fx0_ofF {l m : List Fxr} (h : l.map fx0 = m.map fx0) : ofF l = ofF m := by
  unfold ofF
  rw [fx0_prt h, map_len h]
theorem fxV_0 (f : Fxr) : fxV (fx0 f) = fxV f := rfl
theorem any_map0 (l : List Fxr) : (l.map fx0).any (fun f => fxV f != 0) = l.any (fun f => fxV f != 0) := by
  rw [List.any_map]; rfl
theorem bdV_0 (b : Bdy) : bdV (bd0 b) = bdV b := by
  unfold bdV
  show (if known b.k = false then (10 : Int) else if (motB b && parB b) = false then 6 else if 4 < (b.fs.map fx0).length then 11 else if ((b.fs.map fx0).any fun f => fxV f != 0) = true then 13 else if (!suitB b || (b.asl && movB b)) = true then 14 else 0) = _
  rw [any_map0, List.length_map]
theorem bdV_eq {a b : Bdy} (h : bd0 a = bd0 b) : bdV a = bdV b := by rw [← bdV_0 a, ← bdV_0 b, h]

def wcx (b : Bdy) : Int := tpx b.px b.pa (ofF b.fs).x (ofF b.fs).y
def wcy (b : Bdy) : Int := tpy b.py b.pa (ofF b.fs).x (ofF b.fs).y
def ivm (b : Bdy) : Int := invM (ofF b.fs).m b.k
def ivi (b : Bdy) : Int := invI (ofF b.fs).i b.k b.fix
def cl24 (x : Int) : Int := clamp x (-16777216) 16777216
def cl22 (x : Int) : Int := clamp x (-4194304) 4194304
def clB (b : Bdy) : Bdy := { b with vx := cl24 b.vx, vy := cl24 b.vy, av := cl22 b.av }
def psB (b : Bdy) (x y a : Int) : Bdy := if b.k = 3 then { b with vx := cl24 (add b.vx (mul x (ivm b))), vy := cl24 (add b.vy (mul y (ivm b))), av := cl22 (add b.av (mul a (ivi b))), asl := false, idl := 0 } else b
def imB (b : Bdy) (px py x y : Int) : Bdy := psB b x y (cross (sub px (wcx b)) (sub py (wcy b)) x y)
def fbd (b : Bdy) (f : Fxr) : Bx := bndS f.K f.R f.ps b.px b.py b.pa
def bxs23 (b : Bdy) (k : Nat) : Bx := ((b.fs.take k).tail.map (fbd b)).foldl Bx.uni (match b.fs with | [] => Bx.zero | f :: _ => fbd b f)
def fat (b : Bdy) (x y : Int) (f : Fxr) : Bool := conS f.K f.R f.ps b.px b.py b.pa x y
def fxat (b : Bdy) (x y : Int) : Int := match b.fs.findIdx? (fat b x y) with | some i => (i : Int) | none => -1

theorem bxs23_succ {b : Bdy} {k : Nat} (h : k < b.fs.length) (h0 : 0 < k) : bxs23 b (k + 1) = Bx.uni (bxs23 b k) (fbd b b.fs[k]) := by
  unfold bxs23
  have e : (b.fs.take (k + 1)).tail = (b.fs.take k).tail ++ [b.fs[k]] := by
    rw [← List.take_append_getElem h, List.tail_append_of_ne_nil]
    intro h2
    have := congrArg List.length h2
    rw [List.length_take, List.length_nil] at this; omega
  rw [e, List.map_append, List.foldl_append]; rfl
theorem bxs23_one {b : Bdy} (h : 0 < b.fs.length) : bxs23 b 1 = fbd b b.fs[0] := by
  unfold bxs23
  have hn : b.fs ≠ [] := fun e => by rw [e] at h; simp at h
  obtain ⟨f, r, e⟩ := List.exists_cons_of_ne_nil hn
  simp [e]

theorem cl24_in (x : Int) : bet (cl24 x) (-16777216) 16777216 = true := by unfold bet cl24 clamp; simp only [Bool.and_eq_true, decide_eq_true_eq]; split <;> (try split) <;> omega
theorem cl22_in (x : Int) : bet (cl22 x) (-4194304) 4194304 = true := by unfold bet cl22 clamp; simp only [Bool.and_eq_true, decide_eq_true_eq]; split <;> (try split) <;> omega
theorem cl24_id {x : Int} (h : bet x (-16777216) 16777216 = true) : cl24 x = x := by unfold bet at h; unfold cl24 clamp; simp only [Bool.and_eq_true, decide_eq_true_eq] at h; rw [if_neg (by omega), if_neg (by omega)]
theorem cl22_id {x : Int} (h : bet x (-4194304) 4194304 = true) : cl22 x = x := by unfold bet at h; unfold cl22 clamp; simp only [Bool.and_eq_true, decide_eq_true_eq] at h; rw [if_neg (by omega), if_neg (by omega)]
theorem bdV_ok {b : Bdy} (h : bdV b = 0) : known b.k = true ∧ motB b = true ∧ parB b = true ∧ b.fs.length ≤ 4 ∧ (b.fs.any fun f => fxV f != 0) = false ∧ suitB b = true ∧ (b.asl && movB b) = false := by
  unfold bdV at h
  cases h1 : known b.k
  · rw [if_pos h1] at h; cases h
  rw [if_neg (by rw [h1]; decide)] at h
  cases h2 : (motB b && parB b)
  · rw [if_pos h2] at h; cases h
  rw [if_neg (by rw [h2]; decide)] at h
  by_cases h3 : 4 < b.fs.length
  · rw [if_pos h3] at h; cases h
  rw [if_neg h3] at h
  cases h4 : (b.fs.any fun f => fxV f != 0)
  rotate_left
  · rw [if_pos h4] at h; cases h
  rw [if_neg (by rw [h4]; decide)] at h
  cases h5 : (!suitB b || (b.asl && movB b))
  rotate_left
  · rw [if_pos h5] at h; cases h
  simp only [Bool.and_eq_true] at h2
  simp only [Bool.or_eq_false_iff, Bool.not_eq_false'] at h5
  exact ⟨rfl, h2.1, h2.2, by omega, rfl, h5.1, h5.2⟩
theorem bdV_of {b : Bdy} (h1 : known b.k = true) (h2 : motB b = true) (h3 : parB b = true) (h4 : b.fs.length ≤ 4) (h5 : (b.fs.any fun f => fxV f != 0) = false) (h6 : suitB b = true) (h7 : (b.asl && movB b) = false) : bdV b = 0 := by
  unfold bdV
  rw [if_neg (by rw [h1]; decide), if_neg (by rw [h2, h3]; decide), if_neg (by omega), if_neg (by rw [h5]; decide), if_neg (by rw [h6, h7]; decide)]
theorem psB_val {b : Bdy} (x y a : Int) (h : bdV b = 0) : bdV (psB b x y a) = 0 := by
  unfold psB
  by_cases hk : b.k = 3
  rotate_left
  · rw [if_neg hk]; exact h
  rw [if_pos hk]
  obtain ⟨h1, h2, h3, h4, h5, h6, h7⟩ := bdV_ok h
  refine bdV_of h1 ?_ ?_ h4 h5 ?_ rfl
  · unfold motB at *
    simp only [Bool.and_eq_true] at h2 ⊢
    exact ⟨⟨⟨⟨h2.1.1.1.1, cl24_in _, cl24_in _⟩, cl22_in _⟩, h2.1.2⟩, h2.2⟩
  · unfold parB at *
    simp only [Bool.and_eq_true] at h3 ⊢
    exact ⟨h3.1, by decide⟩
  · unfold suitB
    simp [hk]
theorem psB_asl {b : Bdy} (x y a : Int) (h : bdV b = 0) : (psB b x y a).asl = false := by
  unfold psB
  by_cases hk : b.k = 3
  · rw [if_pos hk]
  · rw [if_neg hk]
    obtain ⟨h1, h2, h3, h4, h5, h6, h7⟩ := bdV_ok h
    unfold suitB at h6
    cases ha : b.asl
    · rfl
    · simp [hk, ha] at h6
theorem clB_id {b : Bdy} (h : bdV b = 0) : clB b = b := by
  obtain ⟨h1, h2, h3, h4, h5, h6, h7⟩ := bdV_ok h
  unfold motB at h2
  simp only [Bool.and_eq_true] at h2
  unfold clB
  rw [cl24_id h2.1.1.1.2.1, cl24_id h2.1.1.1.2.2, cl22_id h2.1.1.2]
theorem psB_place (b : Bdy) (x y a : Int) : (psB b x y a).px = b.px ∧ (psB b x y a).py = b.py ∧ (psB b x y a).pa = b.pa := by
  unfold psB; split <;> exact ⟨rfl, rfl, rfl⟩

theorem mul_opp (a b : Int) : mul (-a) b = -mul a b := by
  unfold mul; rw [Fx.sat_neg, Int.neg_mul, Fx.rdiv_neg, Fx.sat_neg]
theorem cross_opp (a b x y : Int) : cross a b (-x) (-y) = -cross a b x y := by
  unfold cross; rw [Fx.sat_neg, Fx.sat_neg]
  have : sat a * -sat y - sat b * -sat x = -(sat a * sat y - sat b * sat x) := by grind
  rw [this, Fx.rdiv_neg, Fx.sat_neg]
def ltB (x l : Int) : Prop := -l < x ∧ x < l
def unB (b : Bdy) : Prop := ltB b.vx 16777216 ∧ ltB b.vy 16777216 ∧ ltB b.av 4194304
theorem back_v {v s : Int} (h : ltB v 16777216) (hs : -536870911 ≤ s ∧ s ≤ 536870911) (hx : ltB (cl24 (add v s)) 16777216) : cl24 (add (cl24 (add v s)) (-s)) = v := by
  unfold ltB at *
  have e1 : add v s = v + s := by
    unfold cl24 clamp add sat at *
    (repeat' split at hx) <;> (repeat' split) <;> omega
  have h2 : ltB (v + s) 16777216 := by
    unfold ltB cl24 clamp at *
    rw [e1] at hx
    (repeat' split at hx) <;> omega
  unfold ltB at h2
  rw [e1]
  have e2 : cl24 (v + s) = v + s := cl24_id (by unfold bet; simp only [Bool.and_eq_true, decide_eq_true_eq]; omega)
  rw [e2]
  have e3 : add (v + s) (-s) = v := by
    unfold add
    rw [sat_id (x := v + s) (by omega) (by omega), sat_id (x := -s) (by omega) (by omega), show v + s + -s = v by omega, sat_id (by omega) (by omega)]
  rw [e3]
  exact cl24_id (by unfold bet; simp only [Bool.and_eq_true, decide_eq_true_eq]; omega)
theorem back_a {v s : Int} (h : ltB v 4194304) (hs : -536870911 ≤ s ∧ s ≤ 536870911) (hx : ltB (cl22 (add v s)) 4194304) : cl22 (add (cl22 (add v s)) (-s)) = v := by
  unfold ltB at *
  have e1 : add v s = v + s := by
    unfold cl22 clamp add sat at *
    (repeat' split at hx) <;> (repeat' split) <;> omega
  have h2 : ltB (v + s) 4194304 := by
    unfold ltB cl22 clamp at *
    rw [e1] at hx
    (repeat' split at hx) <;> omega
  unfold ltB at h2
  rw [e1]
  have e2 : cl22 (v + s) = v + s := cl22_id (by unfold bet; simp only [Bool.and_eq_true, decide_eq_true_eq]; omega)
  rw [e2]
  have e3 : add (v + s) (-s) = v := by
    unfold add
    rw [sat_id (x := v + s) (by omega) (by omega), sat_id (x := -s) (by omega) (by omega), show v + s + -s = v by omega, sat_id (by omega) (by omega)]
  rw [e3]
  exact cl22_id (by unfold bet; simp only [Bool.and_eq_true, decide_eq_true_eq]; omega)
theorem mul_in23 (a b : Int) : -536870911 ≤ mul a b ∧ mul a b ≤ 536870911 := ⟨sat_ge _, sat_le _⟩
theorem psB_back {b : Bdy} {x y a : Int} (h : unB b) (h2 : unB (psB b x y a)) : (psB (psB b x y a) (-x) (-y) (-a)).vx = b.vx ∧ (psB (psB b x y a) (-x) (-y) (-a)).vy = b.vy ∧ (psB (psB b x y a) (-x) (-y) (-a)).av = b.av := by
  by_cases hk : b.k = 3
  rotate_left
  · have e : ∀ x y a, psB b x y a = b := fun x y a => if_neg hk
    rw [e, e]; exact ⟨rfl, rfl, rfl⟩
  have e : psB b x y a = { b with vx := cl24 (add b.vx (mul x (ivm b))), vy := cl24 (add b.vy (mul y (ivm b))), av := cl22 (add b.av (mul a (ivi b))), asl := false, idl := 0 } := if_pos hk
  have e2 : ∀ (c : Bdy) x y a, c.k = 3 → psB c x y a = { c with vx := cl24 (add c.vx (mul x (ivm c))), vy := cl24 (add c.vy (mul y (ivm c))), av := cl22 (add c.av (mul a (ivi c))), asl := false, idl := 0 } := fun c x y a h => if_pos h
  have hk2 : (psB b x y a).k = 3 := by rw [e]; exact hk
  rw [e2 _ _ _ _ hk2]
  have i1 : ivm (psB b x y a) = ivm b := by rw [e]; rfl
  have i2 : ivi (psB b x y a) = ivi b := by rw [e]; rfl
  rw [i1, i2]
  rw [e] at h2 ⊢
  unfold unB at h h2
  dsimp only at h2 ⊢
  rw [mul_opp, mul_opp, mul_opp]
  exact ⟨back_v h.1 (mul_in23 _ _) h2.1, back_v h.2.1 (mul_in23 _ _) h2.2.1, back_a h.2.2 (mul_in23 _ _) h2.2.2⟩
theorem psB_wc (b : Bdy) (x y a : Int) : wcx (psB b x y a) = wcx b ∧ wcy (psB b x y a) = wcy b := by
  unfold psB; split <;> exact ⟨rfl, rfl⟩
theorem imB_back {b : Bdy} {px py x y : Int} (h : unB b) (h2 : unB (imB b px py x y)) : (imB (imB b px py x y) px py (-x) (-y)).vx = b.vx ∧ (imB (imB b px py x y) px py (-x) (-y)).vy = b.vy ∧ (imB (imB b px py x y) px py (-x) (-y)).av = b.av := by
  have e : imB (imB b px py x y) px py (-x) (-y) = psB (imB b px py x y) (-x) (-y) (-cross (sub px (wcx b)) (sub py (wcy b)) x y) := by
    show psB _ _ _ (cross (sub px (wcx (imB b px py x y))) (sub py (wcy (imB b px py x y))) (-x) (-y)) = _
    have e1 : wcx (imB b px py x y) = wcx b := (psB_wc b x y _).1
    have e2 : wcy (imB b px py x y) = wcy b := (psB_wc b x y _).2
    rw [e1, e2, cross_opp]
  rw [e]
  exact psB_back h h2

def ctn (A U : Bx) : Prop := A.val = true ∧ U.val = true ∧ U.x0 ≤ A.x0 ∧ U.y0 ≤ A.y0 ∧ A.x1 ≤ U.x1 ∧ A.y1 ≤ U.y1
theorem ctn_refl {A : Bx} (h : A.val = true) : ctn A A := ⟨h, h, Int.le_refl _, Int.le_refl _, Int.le_refl _, Int.le_refl _⟩
theorem uni_ok {A B : Bx} (ha : A.val = true) (hb : B.val = true) : A.uni B = ⟨min A.x0 B.x0, min A.y0 B.y0, max A.x1 B.x1, max A.y1 B.y1⟩ := by unfold Bx.uni; rw [if_pos ha, if_pos hb]
theorem mm_pick (a b : Int) : (min a b = a ∨ min a b = b) ∧ (max a b = a ∨ max a b = b) := by omega
theorem uni_val {A B : Bx} (ha : A.val = true) (hb : B.val = true) : (A.uni B).val = true := by
  rw [uni_ok ha hb, Bx.val_iff]
  obtain ⟨a1, a2, a3, a4, a5, a6⟩ := Bx.val_iff.1 ha
  obtain ⟨b1, b2, b3, b4, b5, b6⟩ := Bx.val_iff.1 hb
  unfold Bx.ok
  dsimp only
  refine ⟨by omega, by omega, ?_, ?_, ?_, ?_⟩
  · rcases (mm_pick A.x0 B.x0).1 with e | e <;> rw [e] <;> assumption
  · rcases (mm_pick A.y0 B.y0).1 with e | e <;> rw [e] <;> assumption
  · rcases (mm_pick A.x1 B.x1).2 with e | e <;> rw [e] <;> assumption
  · rcases (mm_pick A.y1 B.y1).2 with e | e <;> rw [e] <;> assumption
theorem ctn_uni {A U B : Bx} (h : ctn A U) (hb : B.val = true) : ctn A (U.uni B) ∧ ctn B (U.uni B) := by
  obtain ⟨h1, h2, h3, h4, h5, h6⟩ := h
  have hv := uni_val h2 hb
  rw [uni_ok h2 hb] at hv ⊢
  exact ⟨⟨h1, hv, by dsimp only; omega, by dsimp only; omega, by dsimp only; omega, by dsimp only; omega⟩, ⟨hb, hv, by dsimp only; omega, by dsimp only; omega, by dsimp only; omega, by dsimp only; omega⟩⟩
theorem exp_two {A : Bx} (h : A.val = true) : A.exp 2 = A.mar 2 ∧ (A.mar 2).val = true := by
  have hv : (A.mar 2).val = true := Bx.val_iff.2 (Bx.mar_ok (Bx.val_iff.1 h) (by decide))
  exact ⟨by unfold Bx.exp; rw [h, hv]; rfl, hv⟩
theorem ctn_has {A U : Bx} {x y : Int} (h : ctn A U) (hp : (A.exp 2).has x y = true) : (U.exp 2).has x y = true := by
  obtain ⟨h1, h2, h3, h4, h5, h6⟩ := h
  rw [(exp_two h1).1] at hp
  rw [(exp_two h2).1]
  unfold Bx.has at *
  rw [(exp_two h2).2]
  simp only [Bool.and_eq_true, decide_eq_true_eq, Bool.true_and] at hp ⊢
  obtain ⟨⟨⟨⟨-, p1⟩, p2⟩, p3⟩, p4⟩ := hp
  unfold Bx.mar sub add at *
  dsimp only at *
  have m1 := sat_mono (show sat U.x0 - sat 2 ≤ sat A.x0 - sat 2 by have := sat_mono h3; omega)
  have m2 := sat_mono (show sat U.y0 - sat 2 ≤ sat A.y0 - sat 2 by have := sat_mono h4; omega)
  have m3 := sat_mono (show sat A.x1 + sat 2 ≤ sat U.x1 + sat 2 by have := sat_mono h5; omega)
  have m4 := sat_mono (show sat A.y1 + sat 2 ≤ sat U.y1 + sat 2 by have := sat_mono h6; omega)
  exact ⟨⟨⟨by omega, by omega⟩, by omega⟩, by omega⟩
theorem bdV_fx {b : Bdy} (h : bdV b = 0) : tval b.px b.py b.pa = true ∧ ∀ f ∈ b.fs, valS f.K f.R f.ps = 0 := by
  obtain ⟨h1, h2, h3, h4, h5, h6, h7⟩ := bdV_ok h
  unfold motB at h2
  simp only [Bool.and_eq_true] at h2
  refine ⟨h2.1.1.1.1, fun f hf => ?_⟩
  have h8 := List.any_eq_false.1 h5 f hf
  have h9 : fxV f = 0 := by simpa using h8
  unfold fxV at h9
  by_cases hz : valS f.K f.R f.ps = 0
  · exact hz
  · rw [if_pos hz] at h9; exact h9
theorem bxs_ctn {b : Bdy} (h : bdV b = 0) : ∀ k, 0 < k → k ≤ b.fs.length → ∀ i (hi : i < b.fs.length), i < k → ctn (fbd b b.fs[i]) (bxs23 b k)
  | 0, h0, _, _, _, _ => by omega
  | 1, _, hk, i, hi, hik => by
    obtain rfl : i = 0 := by omega
    rw [bxs23_one hi]
    exact ctn_refl (bnd_val (bdV_fx h).1 ((bdV_fx h).2 _ (List.getElem_mem hi)))
  | k + 2, _, hk, i, hi, hik => by
    rw [bxs23_succ (by omega : k + 1 < b.fs.length) (by omega)]
    have hv : (fbd b (b.fs[k + 1]'(by omega))).val = true := bnd_val (bdV_fx h).1 ((bdV_fx h).2 _ (List.getElem_mem _))
    have h0 := bxs_ctn h (k + 1) (by omega) (by omega) 0 (by omega) (by omega)
    by_cases h3 : i = k + 1
    · subst h3; exact (ctn_uni h0 hv).2
    · exact (ctn_uni (bxs_ctn h (k + 1) (by omega) (by omega) i hi (by omega)) hv).1
theorem fat_in {b : Bdy} {x y : Int} (h : bdV b = 0) {i : Nat} (hi : i < b.fs.length) (hc : fat b x y b.fs[i] = true) : ((bxs23 b b.fs.length).exp 2).has x y = true :=
  ctn_has (bxs_ctn h _ (by omega) (Nat.le_refl _) i hi hi) (con_in (bdV_fx h).1 hc)
theorem fxat_cases (b : Bdy) (x y : Int) : (fxat b x y = -1 ∧ ∀ f ∈ b.fs, fat b x y f = false) ∨ ∃ i, ∃ hi : i < b.fs.length, fxat b x y = (i : Int) ∧ fat b x y b.fs[i] = true ∧ ∀ j (hj : j < b.fs.length), j < i → fat b x y b.fs[j] = false := by
  unfold fxat
  cases h : b.fs.findIdx? (fat b x y) with
  | none => exact .inl ⟨rfl, fun f hf => by simpa using List.findIdx?_eq_none_iff.1 h f hf⟩
  | some i =>
    obtain ⟨hi, h1, h2⟩ := List.findIdx?_eq_some_iff_getElem.1 h
    exact .inr ⟨i, hi, rfl, h1, fun j hj hji => by simpa using h2 j hji⟩

end Go.Proofs.YtdmcdicphohlfaaGreat
