/- Plain mathematics of convex hulls: when a segment between two points is an edge of the hull of a list of points, that edges follow one another in one way only, and what a list of corners is. No program is imported.
Plain mathematics of convex hulls, continued: the list of a hull's corners is the only one of its kind; its corners are different, it is strictly convex, and it is its own hull.
Plain mathematics of convex hulls, continued: the monotone chain over points in rising order gives edges of the hull.
Plain mathematics of convex hulls, continued: the two monotone chains together are the hull's list of corners; points in rising order; the hull of points that do not lie on one line exists.
Plain mathematics of polygons: the Lean functions that the contracts of package polygon and of its reference speak of. No program is imported.
The unit square of the examples. No program is imported. -/
import Derived.Test.YtdmcdicphohlfaaGreatMa1
import Derived.Test.YtdmcdicphohlfaaGreatMa2

set_option linter.unusedVariables false
namespace Go.Proofs.YtdmcdicphohlfaaGreat.Fx

abbrev Pt := Int × Int
def dt (a b c : Pt) : Int := (b.1 - a.1) * (c.2 - a.2) - (b.2 - a.2) * (c.1 - a.1)
def d2 (a b : Pt) : Int := (b.1 - a.1) * (b.1 - a.1) + (b.2 - a.2) * (b.2 - a.2)
theorem dt_swap (a b c : Pt) : dt a c b = -dt a b c := by unfold dt; grind
theorem sq_nonneg' (x : Int) : 0 ≤ x * x := by
  rcases (by omega : 0 ≤ x ∨ x ≤ 0) with h | h
  · exact Int.mul_nonneg h h
  · exact Int.mul_nonneg_of_nonpos_of_nonpos h h
theorem sq_zero {x : Int} (h : x * x = 0) : x = 0 := (Int.mul_eq_zero.1 h).elim id id
theorem d2_nn (a b : Pt) : 0 ≤ d2 a b := by
  have h1 := sq_nonneg' (b.1 - a.1); have h2 := sq_nonneg' (b.2 - a.2)
  unfold d2; omega
theorem d2_zero {a b : Pt} (h : d2 a b = 0) : a = b := by
  have h1 := sq_nonneg' (b.1 - a.1); have h2 := sq_nonneg' (b.2 - a.2)
  have e1 : (b.1 - a.1) * (b.1 - a.1) = 0 := by unfold d2 at h; omega
  have e2 : (b.2 - a.2) * (b.2 - a.2) = 0 := by unfold d2 at h; omega
  have f1 := sq_zero e1
  have f2 := sq_zero e2
  exact Prod.ext (by omega) (by omega)
theorem d2_self (a : Pt) : d2 a a = 0 := by unfold d2; simp

def Ed (S : List Pt) (p q : Pt) : Prop := p ∈ S ∧ q ∈ S ∧ q ≠ p ∧ ∀ r ∈ S, 0 < dt p q r ∨ (dt p q r = 0 ∧ d2 p r ≤ d2 p q)
instance (S : List Pt) (p q : Pt) : Decidable (Ed S p q) := by unfold Ed; exact inferInstance
theorem Ed.nn {S : List Pt} {p q r : Pt} (h : Ed S p q) (hr : r ∈ S) : 0 ≤ dt p q r := by
  rcases h.2.2.2 r hr with h | h <;> omega
def ncol (S : List Pt) : Prop := ∀ a ∈ S, ∀ b ∈ S, a ≠ b → ∃ r ∈ S, dt a b r ≠ 0
theorem Ed.sub {S T : List Pt} {p q : Pt} (h : Ed S p q) (hT : ∀ x ∈ T, x ∈ S) (hp : p ∈ T) (hq : q ∈ T) : Ed T p q := ⟨hp, hq, h.2.2.1, fun r hr => h.2.2.2 r (hT r hr)⟩

theorem sq_eq {x y : Int} (h : x * x = y * y) : x = y ∨ x = -y := by
  have : (x - y) * (x + y) = 0 := by grind
  rcases Int.mul_eq_zero.1 this with h | h
  · exact .inl (by omega)
  · exact .inr (by omega)
theorem Ed.unique {S : List Pt} {p q q' : Pt} (hn : ncol S) (h : Ed S p q) (h' : Ed S p q') : q = q' := by
  have n1 := h.nn h'.2.1
  have n2 := h'.nn h.2.1
  rw [dt_swap] at n2
  have e0 : dt p q q' = 0 := by omega
  have l1 : d2 p q' ≤ d2 p q := by rcases h.2.2.2 q' h'.2.1 with k | k <;> omega
  have l2 : d2 p q ≤ d2 p q' := by
    rcases h'.2.2.2 q h.2.1 with k | k
    · rw [dt_swap] at k; omega
    · exact k.2
  have el : d2 p q = d2 p q' := by omega
  obtain ⟨s, hs⟩ : ∃ s, (q.1 - p.1) * (q'.1 - p.1) + (q.2 - p.2) * (q'.2 - p.2) = s := ⟨_, rfl⟩
  have hq : s * s = d2 p q * d2 p q := by
    have : s * s + dt p q q' * dt p q q' = d2 p q * d2 p q' := by rw [← hs]; unfold dt d2; grind
    rw [e0] at this; rw [← el] at this; omega
  rcases sq_eq hq with e | e
  · have : d2 q q' = 0 := by
      have k : d2 q q' = d2 p q + d2 p q' - 2 * s := by rw [← hs]; unfold d2; grind
      omega
    exact d2_zero this
  · exfalso
    have k1 : (q'.1 - p.1) + (q.1 - p.1) = 0 ∧ (q'.2 - p.2) + (q.2 - p.2) = 0 := by
      have k : ((q'.1 - p.1) + (q.1 - p.1)) * ((q'.1 - p.1) + (q.1 - p.1)) + ((q'.2 - p.2) + (q.2 - p.2)) * ((q'.2 - p.2) + (q.2 - p.2)) = d2 p q + d2 p q' + 2 * s := by rw [← hs]; unfold d2; grind
      have z1 := sq_nonneg' ((q'.1 - p.1) + (q.1 - p.1)); have z2 := sq_nonneg' ((q'.2 - p.2) + (q.2 - p.2))
      exact ⟨sq_zero (by omega), sq_zero (by omega)⟩
    obtain ⟨r, hr, hd⟩ := hn p h.1 q h.2.1 (fun e => h.2.2.1 e.symm)
    have m1 := h.nn hr
    have m2 := h'.nn hr
    have m3 : dt p q' r = -dt p q r := by
      have a1 : q'.1 - p.1 = -(q.1 - p.1) := by omega
      have a2 : q'.2 - p.2 = -(q.2 - p.2) := by omega
      unfold dt; rw [a1, a2]; grind
    omega

end Go.Proofs.YtdmcdicphohlfaaGreat.Fx

set_option linter.unusedVariables false
namespace Go.Proofs.YtdmcdicphohlfaaGreat.Fx

def hp' (h : List Pt) (i : Nat) : Pt := h.getD (i % h.length) (0, 0)
theorem hp_lt {h : List Pt} {i : Nat} (hi : i < h.length) : hp' h i = h[i] := by
  unfold hp'; rw [Nat.mod_eq_of_lt hi, List.getD_eq_getElem?_getD, List.getElem?_eq_getElem hi]; rfl
theorem hp_add (h : List Pt) (i : Nat) : hp' h (i + h.length) = hp' h i := by unfold hp'; rw [Nat.add_mod_right]
theorem hp_mem {h : List Pt} (i : Nat) (h0 : 0 < h.length) : hp' h i ∈ h := by
  have hm := Nat.mod_lt i h0
  have : hp' h i = h[i % h.length] := by unfold hp'; rw [List.getD_eq_getElem?_getD, List.getElem?_eq_getElem hm]; rfl
  rw [this]; exact List.getElem_mem hm
theorem hp_of {h : List Pt} {x : Pt} (hx : x ∈ h) : ∃ i, i < h.length ∧ hp' h i = x := by
  obtain ⟨i, hi, rfl⟩ := List.mem_iff_getElem.1 hx
  exact ⟨i, hi, hp_lt hi⟩

def lexLe (a b : Pt) : Prop := a.1 < b.1 ∨ (a.1 = b.1 ∧ a.2 ≤ b.2)
instance (a b : Pt) : Decidable (lexLe a b) := by unfold lexLe; exact inferInstance
theorem lexLe.antisymm {a b : Pt} (h : lexLe a b) (k : lexLe b a) : a = b := by
  unfold lexLe at *; exact Prod.ext (by omega) (by omega)
def isLow (S : List Pt) (p : Pt) : Prop := p ∈ S ∧ ∀ r ∈ S, lexLe p r
theorem isLow.unique {S : List Pt} {p q : Pt} (h : isLow S p) (k : isLow S q) : p = q := (h.2 q k.1).antisymm (k.2 p h.1)

def Hull (S h : List Pt) : Prop := 0 < h.length ∧ isLow S (hp' h 0) ∧ (∀ i, 0 < i → i < h.length → hp' h i ≠ hp' h 0) ∧ ∀ i, i < h.length → Ed S (hp' h i) (hp' h (i + 1))
theorem Hull.edge {S h : List Pt} (H : Hull S h) (i : Nat) : Ed S (hp' h i) (hp' h (i + 1)) := by
  have hm := Nat.mod_lt i H.1
  have e := H.2.2.2 _ hm
  have e1 : hp' h (i % h.length) = hp' h i := by unfold hp'; rw [Nat.mod_mod]
  have e2 : hp' h (i % h.length + 1) = hp' h (i + 1) := by unfold hp'; rw [Nat.mod_add_mod]
  rw [e1, e2] at e; exact e
theorem Hull.mem {S h : List Pt} (H : Hull S h) {x : Pt} (hx : x ∈ h) : x ∈ S := by
  obtain ⟨i, _, rfl⟩ := hp_of hx
  exact (H.edge i).1
theorem Hull.same {S h : List Pt} (hn : ncol S) (H : Hull S h) {i j : Nat} (e : hp' h i = hp' h j) : ∀ t, hp' h (i + t) = hp' h (j + t)
  | 0 => e
  | t + 1 => by
    have ih := Hull.same hn H e t
    have a := H.edge (i + t)
    have b := H.edge (j + t)
    rw [ih] at a
    exact a.unique hn b
theorem Hull.ne {S h : List Pt} (hn : ncol S) (H : Hull S h) {i j : Nat} (hij : i < j) (hj : j < h.length) : hp' h i ≠ hp' h j := by
  intro e
  have k := H.same hn e (h.length - j)
  rw [show j + (h.length - j) = 0 + h.length from by omega, hp_add] at k
  exact H.2.2.1 (i + (h.length - j)) (by omega) (by omega) k
theorem Hull.inj {S h : List Pt} (hn : ncol S) (H : Hull S h) {i j : Nat} (hi : i < h.length) (hj : j < h.length) (e : hp' h i = hp' h j) : i = j := by
  rcases (by omega : i < j ∨ i = j ∨ j < i) with k | k | k
  · exact absurd e (H.ne hn k hj)
  · exact k
  · exact absurd e.symm (H.ne hn k hi)
theorem Hull.nodup {S h : List Pt} (hn : ncol S) (H : Hull S h) : h.Nodup := by
  refine List.pairwise_iff_getElem.2 fun i j hi hj hij e => ?_
  have := H.ne hn hij hj
  rw [hp_lt hi, hp_lt hj] at this
  exact this e
theorem nodup_len : ∀ {h S : List Pt}, h.Nodup → (∀ x ∈ h, x ∈ S) → h.length ≤ S.length
  | [], S, _, _ => by simp
  | x :: h, S, hn, hs => by
    have hx := hs x (List.mem_cons_self ..)
    rw [List.nodup_cons] at hn
    have ih := nodup_len (h := h) (S := S.erase x) hn.2 (fun y hy => (List.mem_erase_of_ne (fun e => hn.1 (by rw [← e]; exact hy))).2 (hs y (List.mem_cons_of_mem _ hy)))
    rw [List.length_erase_of_mem hx] at ih
    have : 0 < S.length := List.length_pos_of_mem hx
    simp; omega
theorem Hull.len {S h : List Pt} (hn : ncol S) (H : Hull S h) : h.length ≤ S.length := nodup_len (H.nodup hn) fun x hx => H.mem hx

theorem Hull.back {S h : List Pt} (H : Hull S h) (i : Nat) : ∃ p, Ed S p (hp' h i) := by
  have e := H.edge (i + h.length - 1)
  have h0 := H.1
  rw [show i + h.length - 1 + 1 = i + h.length from by omega, hp_add] at e
  exact ⟨_, e⟩
theorem Ed.mono {S T : List Pt} (hT : ∀ x, x ∈ S ↔ x ∈ T) {p q : Pt} (h : Ed S p q) : Ed T p q := ⟨(hT p).1 h.1, (hT q).1 h.2.1, h.2.2.1, fun r hr => h.2.2.2 r ((hT r).2 hr)⟩
theorem Hull.mono {S T h : List Pt} (hT : ∀ x, x ∈ S ↔ x ∈ T) (H : Hull S h) : Hull T h :=
  ⟨H.1, ⟨(hT _).1 H.2.1.1, fun r hr => H.2.1.2 r ((hT r).2 hr)⟩, H.2.2.1, fun i hi => (H.2.2.2 i hi).mono hT⟩
end Go.Proofs.YtdmcdicphohlfaaGreat.Fx

set_option linter.unusedVariables false
namespace Go.Proofs.YtdmcdicphohlfaaGreat.Fx

def pos (x y : Int) : Prop := 0 < x ∨ (x = 0 ∧ 0 < y)
def lexLt (a b : Pt) : Prop := pos (b.1 - a.1) (b.2 - a.2)
instance (a b : Pt) : Decidable (lexLt a b) := by unfold lexLt pos; exact inferInstance
theorem lexLt_iff {a b : Pt} : lexLt a b ↔ a.1 < b.1 ∨ (a.1 = b.1 ∧ a.2 < b.2) := by unfold lexLt pos; omega
theorem lexLe_iff {a b : Pt} : lexLe a b ↔ lexLt a b ∨ a = b := by
  rw [lexLt_iff]; unfold lexLe
  constructor
  · intro h
    by_cases e : a.1 = b.1 ∧ a.2 = b.2
    · exact .inr (Prod.ext e.1 e.2)
    · omega
  · rintro (h | rfl) <;> omega
theorem lexLt.trans {a b c : Pt} (h : lexLt a b) (k : lexLt b c) : lexLt a c := by rw [lexLt_iff] at *; omega
theorem lexLt.irrefl {a : Pt} (h : lexLt a a) : False := by rw [lexLt_iff] at h; omega
theorem lexLe.lt {a b c : Pt} (h : lexLe a b) (k : lexLt b c) : lexLt a c := by rcases lexLe_iff.1 h with h | rfl; exact h.trans k; exact k

def good (Q : List Pt) (a b : Pt) : Prop := lexLt a b ∧ ∀ q ∈ Q, 0 < dt a b q ∨ (dt a b q = 0 ∧ lexLe a q ∧ lexLe q b)
theorem good.nn {Q : List Pt} {a b q : Pt} (h : good Q a b) (hq : q ∈ Q) : 0 ≤ dt a b q := by rcases h.2 q hq with k | k <;> omega
theorem good.ed {Q : List Pt} {a b : Pt} (h : good Q a b) (ha : a ∈ Q) (hb : b ∈ Q) : Ed Q a b := by
  refine ⟨ha, hb, fun e => lexLt.irrefl (e ▸ h.1), fun r hr => ?_⟩
  rcases h.2 r hr with k | ⟨k, k1, k2⟩
  · exact .inl k
  · refine .inr ⟨k, ?_⟩
    rcases lexLe_iff.1 k1 with k1 | rfl
    · rcases lexLe_iff.1 k2 with k2 | rfl
      · have hd : 0 ≤ (r.1 - a.1) * (b.1 - r.1) + (r.2 - a.2) * (b.2 - r.2) := by
          have hc : (r.1 - a.1) * (b.2 - r.2) = (r.2 - a.2) * (b.1 - r.1) := by unfold dt at k; grind
          have k1' : pos (r.1 - a.1) (r.2 - a.2) := k1
          have k2' : pos (b.1 - r.1) (b.2 - r.2) := k2
          generalize r.1 - a.1 = x1 at *
          generalize r.2 - a.2 = x2 at *
          generalize b.1 - r.1 = y1 at *
          generalize b.2 - r.2 = y2 at *
          unfold pos at k1' k2'
          rcases k1' with g | ⟨rfl, g⟩
          · rcases k2' with g2 | ⟨rfl, g2⟩
            · have m1 := Int.mul_pos g g2
              have m2 : 0 ≤ (x1 * y1) * (x2 * y2) := by
                have : (x1 * y1) * (x2 * y2) = (x1 * y2) * (x1 * y2) := by grind
                rw [this]; exact sq_nonneg' _
              have m3 : 0 ≤ x2 * y2 := by
                false_or_by_contra
                have := Int.mul_neg_of_pos_of_neg m1 (by omega : x2 * y2 < 0)
                omega
              omega
            · have := Int.mul_pos g g2
              omega
          · rcases k2' with g2 | ⟨rfl, g2⟩
            · have := Int.mul_pos g g2
              omega
            · have := Int.mul_pos g g2
              omega
        have e : d2 a b = d2 a r + d2 r b + 2 * ((r.1 - a.1) * (b.1 - r.1) + (r.2 - a.2) * (b.2 - r.2)) := by unfold d2; grind
        have := d2_nn r b
        omega
      · exact Int.le_refl _
    · rw [d2_self]; exact d2_nn _ _

def edges (Q : List Pt) : List Pt → Prop
  | s :: t :: r => good Q t s ∧ edges Q (t :: r)
  | _ => True
def pop (p : Pt) : List Pt → List Pt
  | s :: t :: r => if dt t s p ≤ 0 then pop p (t :: r) else s :: t :: r
  | l => l
structure Chain (Q st : List Pt) : Prop where
  ed : edges Q st
  sub : ∀ x ∈ st, x ∈ Q
  top : ∃ s r, st = s :: r ∧ ∀ q ∈ Q, lexLe q s
  low : ∃ z, st.getLast? = some z ∧ ∀ q ∈ Q, lexLe z q
theorem Chain.one (p : Pt) : Chain [p] [p] :=
  ⟨trivial, fun x hx => hx, ⟨p, [], rfl, fun q hq => by simp at hq; subst hq; exact lexLe_iff.2 (.inr rfl)⟩, ⟨p, rfl, fun q hq => by simp at hq; subst hq; exact lexLe_iff.2 (.inr rfl)⟩⟩
def mono (P : List Pt) : List Pt := P.foldl (fun st p => p :: pop p st) []
end Go.Proofs.YtdmcdicphohlfaaGreat.Fx

set_option linter.unusedVariables false
namespace Go.Proofs.YtdmcdicphohlfaaGreat.Fx

def neg (p : Pt) : Pt := (-p.1, -p.2)
end Go.Proofs.YtdmcdicphohlfaaGreat.Fx

set_option linter.unusedVariables false
namespace Go.Proofs.YtdmcdicphohlfaaGreat.Fx

def inrP (p : Pt) : Prop := -1048576 ≤ p.1 ∧ p.1 ≤ 1048576 ∧ -1048576 ≤ p.2 ∧ p.2 ≤ 1048576
instance (p : Pt) : Decidable (inrP p) := by unfold inrP; exact inferInstance
def inr2 (x y : Int) : Bool := decide (inrP (x, y))
def or3 (a b c : Pt) : Int := orient a.1 a.2 b.1 b.2 c.1 c.2
def rowok (ps : List Pt) (i k : Nat) : Prop := k = i ∨ k = (i + 1) % ps.length ∨ or3 (hp' ps i) (hp' ps (i + 1)) (hp' ps k) = 1
instance (ps : List Pt) (i k : Nat) : Decidable (rowok ps i k) := by unfold rowok; exact inferInstance
def cvxP (ps : List Pt) : Prop := 3 ≤ ps.length ∧ ps.length ≤ 8 ∧ (∀ p ∈ ps, inrP p) ∧ ∀ i, i < ps.length → ∀ k, k < ps.length → rowok ps i k
instance (ps : List Pt) : Decidable (cvxP ps) := by unfold cvxP; exact inferInstance
def cvx (ps : List Pt) : Bool := decide (cvxP ps)
theorem cvx_iff {ps : List Pt} : cvx ps = true ↔ cvxP ps := by simp [cvx]
theorem cvx_no {ps : List Pt} (h : ¬ cvxP ps) : cvx ps = false := by simp [cvx, h]
theorem hp_mod (h : List Pt) (i : Nat) : hp' h (i % h.length) = hp' h i := by unfold hp'; rw [Nat.mod_mod]

theorem inr_sat {x : Int} (h0 : -1048576 ≤ x) (h1 : x ≤ 1048576) : sat x = x := sat_id (by omega) (by omega)
def crs (ps : List Pt) (i : Nat) : Int := rdiv (((hp' ps i).1 - (hp' ps 0).1) * ((hp' ps (i + 1)).2 - (hp' ps 0).2) - ((hp' ps i).2 - (hp' ps 0).2) * ((hp' ps (i + 1)).1 - (hp' ps 0).1)) 65536
def crsS (ps : List Pt) : Nat → Int
  | 0 => 0
  | k + 1 => crsS ps k + crs ps (k + 1)
def cenX (ps : List Pt) : Nat → Int
  | 0 => 0
  | k + 1 => cenX ps k + ((hp' ps (k + 1)).1 - (hp' ps 0).1 + (hp' ps (k + 2)).1 - (hp' ps 0).1) * crs ps (k + 1)
def cenY (ps : List Pt) : Nat → Int
  | 0 => 0
  | k + 1 => cenY ps k + ((hp' ps (k + 1)).2 - (hp' ps 0).2 + (hp' ps (k + 2)).2 - (hp' ps 0).2) * crs ps (k + 1)
def areaP (ps : List Pt) : Int := if cvx ps = true then rdiv (crsS ps (ps.length - 2)) 2 else 0
def cenP (ps : List Pt) : Pt := if cvx ps = true then
    (if crsS ps (ps.length - 2) = 0 then hp' ps 0 else ((hp' ps 0).1 + rdiv (cenX ps (ps.length - 2)) (3 * crsS ps (ps.length - 2)), (hp' ps 0).2 + rdiv (cenY ps (ps.length - 2)) (3 * crsS ps (ps.length - 2))))
  else (0, 0)
def edg (ps : List Pt) (i : Nat) : Int := vlen (sub (hp' ps (i + 1)).1 (hp' ps i).1) (sub (hp' ps (i + 1)).2 (hp' ps i).2)
def shr (ps : List Pt) : Nat → Int
  | 0 => -1
  | k + 1 => if shr ps k < 0 ∨ edg ps k < shr ps k then edg ps k else shr ps k
def shortP (ps : List Pt) : Int := if cvx ps = true then shr ps ps.length else 0
def conP (ps : List Pt) (x y : Int) : Prop := cvxP ps ∧ ∀ i, i < ps.length → or3 (hp' ps i) (hp' ps (i + 1)) (sat x, sat y) ≠ -1
instance (ps : List Pt) (x y : Int) : Decidable (conP ps x y) := by unfold conP; exact inferInstance
theorem crs_in {ps : List Pt} (h0 : 0 < ps.length) (h : ∀ p ∈ ps, inrP p) (i : Nat) : -134217729 ≤ crs ps i ∧ crs ps i ≤ 134217729 := by
  have a := h _ (hp_mem (h := ps) 0 h0); have b := h _ (hp_mem (h := ps) i h0); have c := h _ (hp_mem (h := ps) (i + 1) h0)
  unfold inrP at a b c
  have m1 := mul_between (a := (hp' ps i).1 - (hp' ps 0).1) (b := (hp' ps (i + 1)).2 - (hp' ps 0).2) (A := 2097152) (B := 2097152) (by omega) (by omega) (by omega) (by omega)
  have m2 := mul_between (a := (hp' ps i).2 - (hp' ps 0).2) (b := (hp' ps (i + 1)).1 - (hp' ps 0).1) (A := 2097152) (B := 2097152) (by omega) (by omega) (by omega) (by omega)
  unfold crs
  generalize (hp' ps i).1 - (hp' ps 0).1 = e1 at *
  generalize (hp' ps i).2 - (hp' ps 0).2 = e2 at *
  generalize (hp' ps (i + 1)).1 - (hp' ps 0).1 = f1 at *
  generalize (hp' ps (i + 1)).2 - (hp' ps 0).2 = f2 at *
  rw [rdiv_in (by omega) (by omega) (by omega) (by omega)]
  have hr := rcore_near (n := e1 * f2 - e2 * f1) (d := 65536) (by omega)
  omega
theorem crsS_in {ps : List Pt} (h0 : 0 < ps.length) (h : ∀ p ∈ ps, inrP p) : ∀ k : Nat, -(134217729 * (k : Int)) ≤ crsS ps k ∧ crsS ps k ≤ 134217729 * (k : Int)
  | 0 => by simp [crsS]
  | k + 1 => by
    have ih := crsS_in h0 h k
    have c := crs_in h0 h (k + 1)
    show -(134217729 * ((k + 1 : Nat) : Int)) ≤ crsS ps k + crs ps (k + 1) ∧ crsS ps k + crs ps (k + 1) ≤ _
    omega
theorem cen_in {ps : List Pt} (h0 : 0 < ps.length) (h : ∀ p ∈ ps, inrP p) : ∀ k : Nat, (-(562949957615616 * (k : Int)) ≤ cenX ps k ∧ cenX ps k ≤ 562949957615616 * (k : Int)) ∧ (-(562949957615616 * (k : Int)) ≤ cenY ps k ∧ cenY ps k ≤ 562949957615616 * (k : Int))
  | 0 => by simp [cenX, cenY]
  | k + 1 => by
    have ih := cen_in h0 h k
    have c := crs_in h0 h (k + 1)
    have a := h _ (hp_mem (h := ps) 0 h0); have b := h _ (hp_mem (h := ps) (k + 1) h0); have d := h _ (hp_mem (h := ps) (k + 2) h0)
    unfold inrP at a b d
    have m1 := mul_between (a := (hp' ps (k + 1)).1 - (hp' ps 0).1 + (hp' ps (k + 2)).1 - (hp' ps 0).1) (b := crs ps (k + 1)) (A := 4194304) (B := 134217729) (by omega) (by omega) (by omega) (by omega)
    have m2 := mul_between (a := (hp' ps (k + 1)).2 - (hp' ps 0).2 + (hp' ps (k + 2)).2 - (hp' ps 0).2) (b := crs ps (k + 1)) (A := 4194304) (B := 134217729) (by omega) (by omega) (by omega) (by omega)
    simp only [cenX, cenY]
    omega

end Go.Proofs.YtdmcdicphohlfaaGreat.Fx

set_option linter.unusedVariables false
namespace Go.Proofs.YtdmcdicphohlfaaGreat
open Fx

end Go.Proofs.YtdmcdicphohlfaaGreat
