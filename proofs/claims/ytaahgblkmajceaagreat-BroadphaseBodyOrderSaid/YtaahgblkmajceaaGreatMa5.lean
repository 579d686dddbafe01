/- What the convex hull of the reference is: mathematics over hullP, lowP, highP, colP.
Lists of vertices that are rotated or reversed: mathematics.
The shortest edge of rotated vertices; what Support hands back.
Plain mathematics of convex polygons: a linear function takes its smallest value over the polygon at a corner. No program is imported. -/
import Derived.Test.YtaahgblkmajceaaGreatCo8
import Derived.Test.YtaahgblkmajceaaGreatMa1

set_option linter.unusedVariables false
namespace Go.Proofs.YtaahgblkmajceaaGreat
open Go.RowKit Fx

def isHigh (S : List Pt) (p : Pt) : Prop := p ∈ S ∧ ∀ r ∈ S, lexLe r p
theorem isHigh.unique {S : List Pt} {p q : Pt} (h : isHigh S p) (k : isHigh S q) : p = q := (k.2 p h.1).antisymm (h.2 q k.1)
theorem endL_le (ps : List Pt) : ∀ k j, j < k → lexLe (endL ps k) (hp' ps j)
  | 0, j, h => absurd h (by omega)
  | k + 1, j, h => by
    have ih := endL_le ps k
    show lexLe (if _ then _ else _) _
    unfold lexLe at ih ⊢
    by_cases c : (hp' ps k).1 < (endL ps k).1 ∨ ((hp' ps k).1 = (endL ps k).1 ∧ (hp' ps k).2 < (endL ps k).2)
    · rw [if_pos c]
      rcases (by omega : j < k ∨ j = k) with h1 | rfl
      · have := ih j h1; omega
      · omega
    · rw [if_neg c]
      rcases (by omega : j < k ∨ j = k) with h1 | rfl
      · exact ih j h1
      · omega
theorem endH_ge (ps : List Pt) : ∀ k j, j < k → lexLe (hp' ps j) (endH ps k)
  | 0, j, h => absurd h (by omega)
  | k + 1, j, h => by
    have ih := endH_ge ps k
    show lexLe _ (if _ then _ else _)
    unfold lexLe at ih ⊢
    by_cases c : (endH ps k).1 < (hp' ps k).1 ∨ ((endH ps k).1 = (hp' ps k).1 ∧ (endH ps k).2 < (hp' ps k).2)
    · rw [if_pos c]
      rcases (by omega : j < k ∨ j = k) with h1 | rfl
      · have := ih j h1; omega
      · omega
    · rw [if_neg c]
      rcases (by omega : j < k ∨ j = k) with h1 | rfl
      · exact ih j h1
      · omega
theorem lowP_low {ps : List Pt} (h0 : 0 < ps.length) : isLow ps (lowP ps) :=
  ⟨endL_mem h0 _, fun r hr => by obtain ⟨i, hi, rfl⟩ := hp_of hr; exact endL_le ps _ i hi⟩
theorem highP_high {ps : List Pt} (h0 : 0 < ps.length) : isHigh ps (highP ps) :=
  ⟨endH_mem h0 _, fun r hr => by obtain ⟨i, hi, rfl⟩ := hp_of hr; exact endH_ge ps _ i hi⟩
theorem sgn_eq0 {n : Int} : sgn n = 0 ↔ n = 0 := by unfold sgn; split <;> (try split) <;> omega
theorem sgn_eq1 {n : Int} : sgn n = 1 ↔ 0 < n := by unfold sgn; split <;> (try split) <;> omega
theorem sgn_eqm {n : Int} : sgn n = -1 ↔ n < 0 := by unfold sgn; split <;> (try split) <;> omega
theorem colP_dt {ps : List Pt} (h0 : 0 < ps.length) (hin : ∀ p ∈ ps, inrP p) : colP ps = true ↔ ∀ q ∈ ps, dt (lowP ps) (highP ps) q = 0 := by
  unfold colP
  rw [decide_eq_true_iff]
  constructor
  · intro h q hq; have := h q hq; rw [or3_dt (hin _ (lowP_low h0).1) (hin _ (highP_high h0).1) (hin _ hq)] at this; exact sgn_eq0.1 this
  · intro h q hq; rw [or3_dt (hin _ (lowP_low h0).1) (hin _ (highP_high h0).1) (hin _ hq)]; exact sgn_eq0.2 (h q hq)
/-- Points that ConvexHull takes. -/
structure Okp (ps : List Pt) : Prop where
  h0 : 0 < ps.length
  h64 : ps.length ≤ 64
  hin : ∀ p ∈ ps, inrP p
theorem hullP_bad {ps : List Pt} (h : ¬ Okp ps) : hullP ps = [] := by
  unfold hullP
  rw [if_pos]
  by_cases h1 : ps.length < 1
  · exact .inl h1
  by_cases h2 : 64 < ps.length
  · exact .inr (.inl h2)
  · exact .inr (.inr fun h3 => h ⟨by omega, by omega, h3⟩)
theorem hullP_good {ps : List Pt} (h : Okp ps) : hullP ps = if colP ps = true then (if lowP ps = highP ps then [lowP ps] else [lowP ps, highP ps]) else hloop ps (lowP ps) (ps.length + 1) (nxt ps (lowP ps)) [lowP ps] := by
  unfold hullP
  rw [if_neg]
  rintro (e | e | e)
  · have := h.h0; omega
  · have := h.h64; omega
  · exact e h.hin
theorem col_ncol {ps : List Pt} (h : Okp ps) (hc : colP ps = false) : ncol ps := by
  by_cases hn : ∀ q ∈ ps, dt (lowP ps) (highP ps) q = 0
  · have := (colP_dt h.h0 h.hin).2 hn; rw [hc] at this; cases this
  · simp only [Classical.not_forall] at hn
    obtain ⟨q, hq, hd⟩ := hn
    exact ncol_of (lowP_low h.h0).1 (highP_high h.h0).1 hq hd
theorem dt_same (a c : Pt) : dt a a c = 0 := by unfold dt; grind
theorem col_hull {ps : List Pt} (h : Okp ps) (hc : colP ps = false) : Hull ps (hullP ps) := by
  have hn := col_ncol h hc
  have hne : lowP ps ≠ highP ps := fun e => by
    have : colP ps = true := (colP_dt h.h0 h.hin).2 fun q _ => by rw [e]; exact dt_same _ _
    rw [hc] at this; cases this
  have H := hull_ex (S := ps) ⟨_, (lowP_low h.h0).1, _, (highP_high h.h0).1, hne⟩
  have e : hp' (hullM (srt ps)) 0 = lowP ps := H.2.1.unique (lowP_low h.h0)
  have hw := H.walk hn (k := ps.length) (by omega)
  rw [e] at hw
  rw [hullP_good h, hc, if_neg (by simp), hw]
  exact H
theorem ncol_col {ps : List Pt} (h : Okp ps) (hn : ncol ps) (h2 : lowP ps ≠ highP ps) : colP ps = false := by
  rw [Bool.eq_false_iff]
  intro e
  obtain ⟨r, hr, hd⟩ := hn _ (lowP_low h.h0).1 _ (highP_high h.h0).1 h2
  exact hd ((colP_dt h.h0 h.hin).1 e r hr)
theorem hullP_mem {ps : List Pt} (x : Pt) (hx : x ∈ hullP ps) : x ∈ ps := by
  by_cases h : Okp ps
  · cases hc : colP ps
    · exact (col_hull h hc).mem hx
    · rw [hullP_good h, hc, if_pos rfl] at hx
      split at hx
      · simp at hx; rw [hx]; exact (lowP_low h.h0).1
      · simp at hx; rcases hx with rfl | rfl
        · exact (lowP_low h.h0).1
        · exact (highP_high h.h0).1
  · rw [hullP_bad h] at hx; simp at hx
theorem hullP_len (ps : List Pt) : (hullP ps).length ≤ ps.length := by
  by_cases h : Okp ps
  · cases hc : colP ps
    · exact (col_hull h hc).len (col_ncol h hc)
    · have hm := @hullP_mem ps
      have hg := hullP_good h
      rw [hc, if_pos rfl] at hg
      by_cases e : lowP ps = highP ps
      · rw [hg, if_pos e]; exact h.h0
      · rw [hg, if_neg e] at hm ⊢
        exact nodup_len (by simp [e]) hm
  · rw [hullP_bad h]; simp
theorem hullP_pos {ps : List Pt} (h : Okp ps) : 0 < (hullP ps).length := by
  cases hc : colP ps
  · exact (col_hull h hc).1
  · rw [hullP_good h, hc, if_pos rfl]; split <;> simp
theorem low_same {S T : List Pt} (hT : ∀ x, x ∈ S ↔ x ∈ T) (h0 : 0 < S.length) (h1 : 0 < T.length) : lowP S = lowP T :=
  (lowP_low h0).unique ⟨(hT _).2 (lowP_low h1).1, fun r hr => (lowP_low h1).2 r ((hT r).1 hr)⟩
theorem high_same {S T : List Pt} (hT : ∀ x, x ∈ S ↔ x ∈ T) (h0 : 0 < S.length) (h1 : 0 < T.length) : highP S = highP T :=
  (highP_high h0).unique ⟨(hT _).2 (highP_high h1).1, fun r hr => (highP_high h1).2 r ((hT r).1 hr)⟩
theorem hullP_same {S T : List Pt} (hT : ∀ x, x ∈ S ↔ x ∈ T) (hS : Okp S) (hT' : Okp T) : hullP S = hullP T := by
  have e1 := low_same hT hS.h0 hT'.h0
  have e2 := high_same hT hS.h0 hT'.h0
  have e3 : colP S = colP T := by
    rw [Bool.eq_iff_iff, colP_dt hS.h0 hS.hin, colP_dt hT'.h0 hT'.hin, e1, e2]
    exact ⟨fun h q hq => h q ((hT q).2 hq), fun h q hq => h q ((hT q).1 hq)⟩
  cases hc : colP S
  · have hc' : colP T = false := e3 ▸ hc
    exact Hull.uniq (col_ncol hT' hc') ((col_hull hS hc).mono hT) (col_hull hT' hc')
  · have hc' : colP T = true := e3 ▸ hc
    rw [hullP_good hS, hullP_good hT', hc, hc', if_pos rfl, if_pos rfl, e1, e2]
theorem hullP_ok {ps : List Pt} (h : Okp ps) : Okp (hullP ps) :=
  ⟨hullP_pos h, by have := hullP_len ps; have := h.h64; omega, fun p hp => h.hin p (hullP_mem p hp)⟩
theorem hullP_idem (ps : List Pt) : hullP (hullP ps) = hullP ps := by
  by_cases h : Okp ps
  · have hk := hullP_ok h
    cases hc : colP ps
    · have H := col_hull h hc
      have hn := H.nc (col_ncol h hc)
      have hne : lowP (hullP ps) ≠ highP (hullP ps) := fun e => by
        have h3 := H.three (col_ncol h hc)
        have hd := H.nodup (col_ncol h hc)
        have hl : ∀ x ∈ hullP ps, x ∈ [lowP (hullP ps)] := fun x hx => by
          have a := (lowP_low hk.h0).2 x hx
          have b := (highP_high hk.h0).2 x hx
          rw [← e] at b
          simp [b.antisymm a]
        have := nodup_len hd hl
        simp at this; omega
      exact Hull.uniq hn (col_hull hk (ncol_col hk hn hne)) H.self
    · have hg := hullP_good h
      rw [hc, if_pos rfl] at hg
      by_cases e : lowP ps = highP ps
      · rw [if_pos e] at hg
        rw [hg] at hk ⊢
        have e1 : lowP [lowP ps] = lowP ps := by simpa using (lowP_low hk.h0).1
        have e2 : highP [lowP ps] = lowP ps := by simpa using (highP_high hk.h0).1
        rw [hullP_good hk, if_pos ((colP_dt hk.h0 hk.hin).2 fun q hq => by rw [e1, e2]; exact dt_same _ _), e1, e2, if_pos rfl]
      · rw [if_neg e] at hg
        rw [hg] at hk ⊢
        have hle : lexLe (lowP ps) (highP ps) := (lowP_low h.h0).2 _ (highP_high h.h0).1
        have e1 : lowP [lowP ps, highP ps] = lowP ps := (lowP_low hk.h0).unique ⟨by simp, fun r hr => by
          simp at hr; rcases hr with rfl | rfl
          · unfold lexLe; omega
          · exact hle⟩
        have e2 : highP [lowP ps, highP ps] = highP ps := (highP_high hk.h0).unique ⟨by simp, fun r hr => by
          simp at hr; rcases hr with rfl | rfl
          · exact hle
          · unfold lexLe; omega⟩
        rw [hullP_good hk, if_pos ((colP_dt hk.h0 hk.hin).2 fun q hq => by
          rw [e1, e2]; simp at hq; rcases hq with rfl | rfl
          · exact dt_first _ _
          · exact dt_self _ _), e1, e2, if_neg e]
  · rw [hullP_bad h]
    exact hullP_bad fun k => by have := k.h0; simp at this
theorem hull3 {ps : List Pt} (h3 : 3 ≤ (hullP ps).length) : Okp ps ∧ colP ps = false := by
  by_cases h : Okp ps
  · refine ⟨h, ?_⟩
    cases hc : colP ps
    · rfl
    · rw [hullP_good h, hc, if_pos rfl] at h3
      split at h3 <;> simp at h3
  · rw [hullP_bad h] at h3; simp at h3
theorem hullP_cvx {ps : List Pt} (h3 : 3 ≤ (hullP ps).length) (h8 : (hullP ps).length ≤ 8) : cvx (hullP ps) = true := by
  obtain ⟨h, hc⟩ := hull3 h3
  have H := col_hull h hc
  have hn := col_ncol h hc
  have hin := (hullP_ok h).hin
  refine cvx_iff.2 ⟨h3, h8, hin, fun i hi k hk => ?_⟩
  unfold rowok
  by_cases c1 : k = i
  · exact .inl c1
  by_cases c2 : k = (i + 1) % (hullP ps).length
  · exact .inr (.inl c2)
  refine .inr (.inr ?_)
  rw [or3_dt (hin _ (hp_mem _ H.1)) (hin _ (hp_mem _ H.1)) (hin _ (hp_mem _ H.1))]
  exact sgn_eq1.2 (H.strict hn hi hk c1 c2)
theorem hullP_cont {ps : List Pt} (h3 : 3 ≤ (hullP ps).length) (h8 : (hullP ps).length ≤ 8) {p : Pt} (hp : p ∈ ps) : cont (hullP ps) p.1 p.2 = true := by
  obtain ⟨h, hc⟩ := hull3 h3
  have H := col_hull h hc
  have hin := (hullP_ok h).hin
  unfold cont
  rw [decide_eq_true_iff]
  refine ⟨cvx_iff.1 (hullP_cvx h3 h8), fun i hi => ?_⟩
  have hpi := h.hin p hp
  rw [inr_sat hpi.1 hpi.2.1, inr_sat hpi.2.2.1 hpi.2.2.2, or3_dt (hin _ (hp_mem _ H.1)) (hin _ (hp_mem _ H.1)) hpi]
  have := (H.edge i).2.2.2 p hp
  intro e
  rw [sgn_eqm] at e
  have e' : dt (hp' (hullP ps) i) (hp' (hullP ps) (i + 1)) p < 0 := e
  omega

end Go.Proofs.YtaahgblkmajceaaGreat

set_option linter.unusedVariables false
namespace Go.Proofs.YtaahgblkmajceaaGreat
open Go.RowKit Fx

def rot (m : Nat) (vs : List Pt) : List Pt := vs.drop m ++ vs.take m
theorem rot_len {m : Nat} {vs : List Pt} (h : m ≤ vs.length) : (rot m vs).length = vs.length := by unfold rot; simp; omega
theorem rot_mem {m : Nat} {vs : List Pt} (x : Pt) : x ∈ rot m vs ↔ x ∈ vs := by
  unfold rot
  rw [List.mem_append, or_comm, ← List.mem_append, List.take_append_drop]
theorem rot_rot {m : Nat} {vs : List Pt} (h : m ≤ vs.length) : rot (vs.length - m) (rot m vs) = vs := by
  have hl : (vs.drop m).length = vs.length - m := by simp
  unfold rot
  rw [← hl, List.drop_left, List.take_left, List.take_append_drop]
theorem hp_rot {m : Nat} {vs : List Pt} (h : m ≤ vs.length) (h0 : 0 < vs.length) (i : Nat) : hp' (rot m vs) i = hp' vs (m + i) := by
  have hj := Nat.mod_lt i h0
  have e1 : (m + i) % vs.length = (m + i % vs.length) % vs.length := by rw [Nat.add_mod, Nat.add_mod m (i % vs.length), Nat.mod_mod]
  unfold hp'
  rw [rot_len h, e1]
  generalize i % vs.length = j at *
  unfold rot
  by_cases c : j < vs.length - m
  · rw [Nat.mod_eq_of_lt (by omega)]
    have hmj : m + j < vs.length := by omega
    simp [List.getD, List.getElem?_append, c, hmj]
  · have e2 : (m + j) % vs.length = m + j - vs.length := by rw [Nat.mod_eq_sub_mod (by omega), Nat.mod_eq_of_lt (by omega)]
    rw [e2]
    have hlt : j - (vs.length - m) < m := by omega
    have e3 : j - (vs.length - m) = m + j - vs.length := by omega
    rw [e3] at hlt
    simp [List.getD, List.getElem?_append, c, e3, hlt]
theorem cvx_dt {vs : List Pt} (h : cvxP vs) {i k : Nat} (hi : i < vs.length) (hk : k < vs.length) (h1 : k ≠ i) (h2 : k ≠ (i + 1) % vs.length) : 0 < dt (hp' vs i) (hp' vs (i + 1)) (hp' vs k) := by
  have h0 : 0 < vs.length := by omega
  rcases h.2.2.2 i hi k hk with e | e | e
  · exact absurd e h1
  · exact absurd e h2
  · rw [or3_dt (h.2.2.1 _ (hp_mem _ h0)) (h.2.2.1 _ (hp_mem _ h0)) (h.2.2.1 _ (hp_mem _ h0))] at e
    exact sgn_eq1.1 e
theorem cvx_of_dt {vs : List Pt} (h3 : 3 ≤ vs.length) (h8 : vs.length ≤ 8) (hin : ∀ p ∈ vs, inrP p) (h : ∀ i k, i < vs.length → k < vs.length → k ≠ i → k ≠ (i + 1) % vs.length → 0 < dt (hp' vs i) (hp' vs (i + 1)) (hp' vs k)) : cvxP vs := by
  refine ⟨h3, h8, hin, fun i hi k hk => ?_⟩
  unfold rowok
  by_cases c1 : k = i
  · exact .inl c1
  by_cases c2 : k = (i + 1) % vs.length
  · exact .inr (.inl c2)
  have h0 : 0 < vs.length := by omega
  refine .inr (.inr ?_)
  rw [or3_dt (hin _ (hp_mem _ h0)) (hin _ (hp_mem _ h0)) (hin _ (hp_mem _ h0))]
  exact sgn_eq1.2 (h i k hi hk c1 c2)
theorem mod_shift {n m i k : Nat} (h0 : 0 < n) (hi : i < n) (hk : k < n) (e : (m + k) % n = (m + i) % n) : k = i := by
  have hm := Nat.mod_lt m h0
  rw [Nat.add_mod, Nat.add_mod m i, Nat.mod_eq_of_lt hi, Nat.mod_eq_of_lt hk] at e
  generalize m % n = r at *
  have f : ∀ x, x < n → (r + x) % n = r + x ∨ (r + x) % n = r + x - n := fun x hx => by
    by_cases c : r + x < n
    · exact .inl (Nat.mod_eq_of_lt c)
    · exact .inr (by rw [Nat.mod_eq_sub_mod (by omega), Nat.mod_eq_of_lt (by omega)])
  have g : ∀ x, x < n → r + x < n → (r + x) % n = r + x := fun x _ c => Nat.mod_eq_of_lt c
  have g2 : ∀ x, x < n → ¬ r + x < n → (r + x) % n = r + x - n := fun x hx c => by rw [Nat.mod_eq_sub_mod (by omega), Nat.mod_eq_of_lt (by omega)]
  by_cases c1 : r + k < n
  · by_cases c2 : r + i < n
    · rw [g k hk c1, g i hi c2] at e; omega
    · rw [g k hk c1, g2 i hi c2] at e; omega
  · by_cases c2 : r + i < n
    · rw [g2 k hk c1, g i hi c2] at e; omega
    · rw [g2 k hk c1, g2 i hi c2] at e; omega
theorem cvx_rot1 {m : Nat} {vs : List Pt} (hm : m ≤ vs.length) (h : cvxP vs) : cvxP (rot m vs) := by
  have h0 : 0 < vs.length := by have := h.1; omega
  have hl := rot_len hm
  refine cvx_of_dt (by rw [hl]; exact h.1) (by rw [hl]; exact h.2.1) (fun p hp => h.2.2.1 p ((rot_mem p).1 hp)) fun i k hi hk c1 c2 => ?_
  rw [hl] at hi hk c2
  rw [hp_rot hm h0, hp_rot hm h0, hp_rot hm h0, ← hp_mod vs (m + i), ← hp_mod vs (m + k)]
  have e : hp' vs (m + (i + 1)) = hp' vs ((m + i) % vs.length + 1) := by
    rw [← hp_mod vs (m + (i + 1)), ← hp_mod vs ((m + i) % vs.length + 1)]
    congr 1
    rw [Nat.mod_add_mod]; rfl
  rw [e]
  refine cvx_dt h (Nat.mod_lt _ h0) (Nat.mod_lt _ h0) (fun e => c1 (mod_shift h0 hi hk e)) fun e => c2 ?_
  rw [Nat.mod_add_mod, show m + i + 1 = m + (i + 1) from rfl, ← Nat.add_mod_mod m (i + 1)] at e
  exact mod_shift h0 (Nat.mod_lt _ h0) hk e
theorem cvx_rot {m : Nat} {vs : List Pt} (hm : m ≤ vs.length) : cvx (rot m vs) = cvx vs := by
  rw [Bool.eq_iff_iff, cvx_iff, cvx_iff]
  constructor
  · intro h
    have := cvx_rot1 (m := vs.length - m) (vs := rot m vs) (by rw [rot_len hm]; omega) h
    rw [rot_rot hm] at this
    exact this
  · exact cvx_rot1 hm
theorem cvx_ne {vs : List Pt} (h : cvxP vs) {a b : Nat} (ha : a < vs.length) (hb : b < vs.length) (hab : a ≠ b) : hp' vs a ≠ hp' vs b := by
  intro e
  have h3 := h.1
  by_cases c : b = (a + 1) % vs.length
  · obtain ⟨k, hk, k1, k2⟩ : ∃ k, k < vs.length ∧ k ≠ a ∧ k ≠ (a + 1) % vs.length := by
      rw [← c]
      by_cases d0 : 0 ≠ a ∧ 0 ≠ b
      · exact ⟨0, by omega, d0.1, d0.2⟩
      · by_cases d1 : 1 ≠ a ∧ 1 ≠ b
        · exact ⟨1, by omega, d1.1, d1.2⟩
        · exact ⟨2, by omega, by omega, by omega⟩
    have hd := cvx_dt h ha hk k1 k2
    rw [← hp_mod vs (a + 1), ← c, ← e, dt_same] at hd
    omega
  · have hd := cvx_dt h ha hb (Ne.symm hab) c
    rw [← e, dt_first] at hd
    omega
theorem cvx_ncol {vs : List Pt} (h : cvxP vs) : ncol vs := by
  have h3 := h.1
  have hd := cvx_dt h (i := 0) (k := 2) (by omega) (by omega) (by omega) (by rw [Nat.mod_eq_of_lt (by omega)]; omega)
  exact ncol_of (hp_mem 0 (by omega)) (hp_mem (0 + 1) (by omega)) (hp_mem 2 (by omega)) (by omega)
theorem cvx_okp {vs : List Pt} (h : cvxP vs) : Okp vs := ⟨by have := h.1; omega, by have := h.2.1; omega, h.2.2.1⟩
theorem d2_self (p : Pt) : d2 p p = 0 := by unfold d2; grind
theorem sq_nn (a : Int) : 0 ≤ a * a := by
  rcases Int.le_total 0 a with h | h
  · exact Int.mul_nonneg h h
  · have := Int.mul_nonneg (show 0 ≤ -a by omega) (show 0 ≤ -a by omega); grind
theorem d2_nn (p q : Pt) : 0 ≤ d2 p q := by
  unfold d2
  have a := sq_nn (q.1 - p.1)
  have b := sq_nn (q.2 - p.2)
  omega
theorem cvx_ed {vs : List Pt} (h : cvxP vs) {a : Nat} (ha : a < vs.length) : Ed vs (hp' vs a) (hp' vs (a + 1)) := by
  have h0 : 0 < vs.length := by omega
  have h3 := h.1
  have hm := Nat.mod_lt (a + 1) h0
  have hna : a ≠ (a + 1) % vs.length := by
    by_cases c : a + 1 < vs.length
    · rw [Nat.mod_eq_of_lt c]; omega
    · rw [show a + 1 = vs.length from by omega, Nat.mod_self]; omega
  refine ⟨hp_mem _ h0, hp_mem _ h0, ?_, fun r hr => ?_⟩
  · rw [← hp_mod vs (a + 1)]; exact (cvx_ne h ha hm hna).symm
  · obtain ⟨k, hk, rfl⟩ := hp_of hr
    by_cases c1 : k = a
    · subst c1; exact .inr ⟨dt_first _ _, by rw [d2_self]; exact d2_nn _ _⟩
    by_cases c2 : k = (a + 1) % vs.length
    · have e : hp' vs k = hp' vs (a + 1) := by rw [c2, hp_mod]
      rw [e]; exact .inr ⟨dt_self _ _, Int.le_refl _⟩
    · exact .inl (cvx_dt h ha hk c1 c2)
theorem cvx_hull {vs : List Pt} (h : cvxP vs) : ∃ m, m < vs.length ∧ Hull vs (rot m vs) := by
  have h0 : 0 < vs.length := by have := h.1; omega
  obtain ⟨m, hm, e⟩ := hp_of (lowP_low h0).1
  have hl := rot_len (vs := vs) (Nat.le_of_lt hm)
  have hr := hp_rot (vs := vs) (Nat.le_of_lt hm) h0
  refine ⟨m, hm, by omega, ?_, fun i i0 hi => ?_, fun i hi => ?_⟩
  · rw [hr, Nat.add_zero, e]; exact lowP_low h0
  · rw [hr, hr, ← hp_mod vs (m + i), Nat.add_zero]
    rw [hl] at hi
    refine cvx_ne h (Nat.mod_lt _ h0) hm fun c => ?_
    have := mod_shift (n := vs.length) (m := m) (i := 0) (k := i) h0 h0 hi (by rw [c, Nat.add_zero, Nat.mod_eq_of_lt hm])
    omega
  · rw [hr, hr, ← hp_mod vs (m + i)]
    have e2 : hp' vs (m + (i + 1)) = hp' vs ((m + i) % vs.length + 1) := by
      rw [← hp_mod vs (m + (i + 1)), ← hp_mod vs ((m + i) % vs.length + 1)]
      congr 1
      rw [Nat.mod_add_mod]; rfl
    rw [e2]
    exact cvx_ed h (Nat.mod_lt _ h0)
theorem hull_ne {S h : List Pt} (h0 : 0 < S.length) (hn : ncol S) (H : Hull S h) : lowP S ≠ highP S := fun e => by
  have h3 := H.three hn
  have hl : ∀ x ∈ h, x ∈ [lowP S] := fun x hx => by
    have a := (lowP_low h0).2 x (H.mem hx)
    have b := (highP_high h0).2 x (H.mem hx)
    rw [← e] at b
    simp [b.antisymm a]
  have := nodup_len (H.nodup hn) hl
  simp at this; omega
/-- The hull of a convex polygon's vertices: the vertices, from the lowest one on. -/
theorem cvx_hullP {vs : List Pt} (h : cvxP vs) : ∃ m, m < vs.length ∧ hullP vs = rot m vs := by
  obtain ⟨m, hm, H⟩ := cvx_hull h
  have hn := cvx_ncol h
  have hk := cvx_okp h
  exact ⟨m, hm, Hull.uniq hn (col_hull hk (ncol_col hk hn (hull_ne hk.h0 hn H))) H⟩
theorem cvx_hull_rot {vs : List Pt} (h : cvxP vs) {n : Nat} (hn : n < vs.length) : (hullP vs).length = vs.length ∧ (hullP vs = rot n vs ∨ hp' (hullP vs) 0 ≠ hp' (rot n vs) 0) := by
  obtain ⟨m, hm, e⟩ := cvx_hullP h
  have h0 : 0 < vs.length := by omega
  rw [e]
  refine ⟨rot_len (Nat.le_of_lt hm), ?_⟩
  by_cases c : m = n
  · exact .inl (by rw [c])
  · exact .inr (by rw [hp_rot (Nat.le_of_lt hm) h0, hp_rot (Nat.le_of_lt hn) h0]; exact cvx_ne h hm hn c)
theorem cvx_cont {vs : List Pt} (h : cvxP vs) {p : Pt} (hp : p ∈ vs) : cont vs p.1 p.2 = true := by
  have h0 : 0 < vs.length := by have := h.1; omega
  have hpi := h.2.2.1 p hp
  unfold cont
  rw [decide_eq_true_iff]
  refine ⟨h, fun i hi => ?_⟩
  rw [inr_sat hpi.1 hpi.2.1, inr_sat hpi.2.2.1 hpi.2.2.2, or3_dt (h.2.2.1 _ (hp_mem _ h0)) (h.2.2.1 _ (hp_mem _ h0)) hpi]
  intro e
  rw [sgn_eqm] at e
  have := (cvx_ed h hi).2.2.2 p hp
  have e' : dt (hp' vs i) (hp' vs (i + 1)) p < 0 := e
  omega
theorem dt_rev (a b c : Pt) : dt c b a = -dt a b c := by unfold dt; grind
theorem cvx_rev {vs : List Pt} (h : cvxP vs) : cvx vs.reverse = false := by
  rw [Bool.eq_false_iff]
  intro e
  have k := cvx_iff.1 e
  have h3 := h.1
  have hl : vs.reverse.length = vs.length := by simp
  have hr : ∀ i, i < vs.length → hp' vs.reverse i = hp' vs (vs.length - 1 - i) := fun i hi => by
    rw [hp_lt (by rw [hl]; exact hi), hp_lt (by omega), List.getElem_reverse]
  have d1 := cvx_dt k (i := 0) (k := 2) (by omega) (by omega) (by omega) (by rw [Nat.mod_eq_of_lt (by omega)]; omega)
  rw [hr 0 (by omega), hr (0 + 1) (by omega), hr 2 (by omega)] at d1
  have d2 := cvx_dt h (i := vs.length - 3) (k := vs.length - 1) (by omega) (by omega) (by omega) (by rw [Nat.mod_eq_of_lt (by omega)]; omega)
  rw [show vs.length - 3 + 1 = vs.length - 2 from by omega] at d2
  rw [show vs.length - 1 - 0 = vs.length - 1 from by omega, show vs.length - 1 - (0 + 1) = vs.length - 2 from by omega, show vs.length - 1 - 2 = vs.length - 3 from by omega, dt_rev] at d1
  omega

end Go.Proofs.YtaahgblkmajceaaGreat

set_option linter.unusedVariables false
namespace Go.Proofs.YtaahgblkmajceaaGreat
open Go.RowKit Fx

theorem shr_min (ps : List Pt) : ∀ k, 1 ≤ k → (∃ i, i < k ∧ shr ps k = edg ps i) ∧ ∀ i, i < k → shr ps k ≤ edg ps i
  | 0, h => absurd h (by omega)
  | k + 1, _ => by
    have nn : ∀ i, 0 ≤ edg ps i := fun i => (vlen_is _ _).1
    show (∃ i, i < k + 1 ∧ (if shr ps k < 0 ∨ edg ps k < shr ps k then edg ps k else shr ps k) = edg ps i) ∧ ∀ i, i < k + 1 → (if shr ps k < 0 ∨ edg ps k < shr ps k then edg ps k else shr ps k) ≤ edg ps i
    by_cases h0 : k = 0
    · subst h0
      rw [if_pos (.inl (by show (-1 : Int) < 0; omega))]
      exact ⟨⟨0, by omega, rfl⟩, fun i hi => by rw [show i = 0 from by omega]; exact Int.le_refl _⟩
    · obtain ⟨⟨i, hi, e⟩, hm⟩ := shr_min ps k (by omega)
      have := nn i
      by_cases c : edg ps k < shr ps k
      · rw [if_pos (.inr c)]
        refine ⟨⟨k, by omega, rfl⟩, fun j hj => ?_⟩
        rcases (by omega : j < k ∨ j = k) with h1 | rfl
        · have := hm j h1; omega
        · exact Int.le_refl _
      · rw [if_neg (by omega)]
        refine ⟨⟨i, by omega, e⟩, fun j hj => ?_⟩
        rcases (by omega : j < k ∨ j = k) with h1 | rfl
        · exact hm j h1
        · omega
theorem edg_mod (ps : List Pt) (i : Nat) : edg ps (i % ps.length) = edg ps i := by
  unfold edg
  rw [hp_mod, ← hp_mod ps (i % ps.length + 1), Nat.mod_add_mod, hp_mod]
theorem edg_rot {m : Nat} {vs : List Pt} (hm : m ≤ vs.length) (h0 : 0 < vs.length) (i : Nat) : edg (rot m vs) i = edg vs (m + i) := by
  unfold edg
  rw [hp_rot hm h0, hp_rot hm h0]; rfl
theorem shortP_rot {m : Nat} {vs : List Pt} (hm : m ≤ vs.length) : shortP (rot m vs) = shortP vs := by
  unfold shortP
  rw [cvx_rot hm, rot_len hm]
  split
  · rename_i h
    have h3 := (cvx_iff.1 h).1
    have h0 : 0 < vs.length := by omega
    obtain ⟨⟨i, hi, e1⟩, m1⟩ := shr_min (rot m vs) vs.length (by omega)
    obtain ⟨⟨j, hj, e2⟩, m2⟩ := shr_min vs vs.length (by omega)
    have a : shr vs vs.length ≤ shr (rot m vs) vs.length := by
      rw [e1, edg_rot hm h0, ← edg_mod]; exact m2 _ (Nat.mod_lt _ h0)
    have b : shr (rot m vs) vs.length ≤ shr vs vs.length := by
      have := m1 ((vs.length - m + j) % vs.length) (Nat.mod_lt _ h0)
      rw [edg_rot hm h0, ← edg_mod, Nat.add_mod_mod, edg_mod, show m + (vs.length - m + j) = vs.length + j from by omega, ← edg_mod, Nat.add_mod_left, edg_mod, ← e2] at this
      exact this
    omega
  · rfl
theorem sup_spec (ps : List Pt) (dx dy : Int) : ∀ k, 1 ≤ k → ∃ j : Nat, j < k ∧ sup ps dx dy k = ((j : Int), dots (hp' ps j) dx dy) ∧ ∀ i, i < k → dots (hp' ps i) dx dy ≤ dots (hp' ps j) dx dy ∧ (dots (hp' ps i) dx dy = dots (hp' ps j) dx dy → j ≤ i)
  | 0, h => absurd h (by omega)
  | k + 1, _ => by
    show ∃ j : Nat, j < k + 1 ∧ (if (sup ps dx dy k).1 < 0 ∨ (sup ps dx dy k).2 < dots (hp' ps k) dx dy then ((k : Int), dots (hp' ps k) dx dy) else sup ps dx dy k) = ((j : Int), dots (hp' ps j) dx dy) ∧ _
    by_cases h0 : k = 0
    · subst h0
      rw [if_pos (.inl (by show (-1 : Int) < 0; omega))]
      exact ⟨0, by omega, rfl, fun i hi => by rw [show i = 0 from by omega]; exact ⟨Int.le_refl _, fun _ => Nat.le_refl _⟩⟩
    · obtain ⟨j, hj, e, hm⟩ := sup_spec ps dx dy k (by omega)
      rw [e]
      dsimp only
      by_cases c : dots (hp' ps j) dx dy < dots (hp' ps k) dx dy
      · rw [if_pos (.inr c)]
        refine ⟨k, by omega, rfl, fun i hi => ?_⟩
        rcases (by omega : i < k ∨ i = k) with h1 | rfl
        · have := (hm i h1).1; exact ⟨by omega, fun h => by omega⟩
        · exact ⟨Int.le_refl _, fun _ => Nat.le_refl _⟩
      · rw [if_neg (by omega)]
        refine ⟨j, by omega, rfl, fun i hi => ?_⟩
        rcases (by omega : i < k ∨ i = k) with h1 | rfl
        · exact hm i h1
        · exact ⟨by omega, fun _ => by omega⟩

end Go.Proofs.YtaahgblkmajceaaGreat

set_option linter.unusedVariables false
namespace Go.Proofs.YtaahgblkmajceaaGreat.Fx

theorem cv_mod1 (ps : List Pt) (i : Nat) : hp' ps (i % ps.length) = hp' ps i ∧ hp' ps (i % ps.length + 1) = hp' ps (i + 1) := by
  refine ⟨hp_mod ps i, ?_⟩
  rw [← hp_mod ps (i % ps.length + 1), Nat.mod_add_mod, hp_mod]
theorem cv_pos {ps : List Pt} (h : cvxP ps) {i k : Nat} (c1 : k % ps.length ≠ i % ps.length) (c2 : k % ps.length ≠ (i + 1) % ps.length) : 0 < dt (hp' ps i) (hp' ps (i + 1)) (hp' ps k) := by
  have h0 : 0 < ps.length := by have := h.1; omega
  have e1 := cv_mod1 ps i
  have e2 := hp_mod ps k
  rw [← e1.1, ← e1.2, ← e2]
  refine cvx_dt h (Nat.mod_lt i h0) (Nat.mod_lt k h0) c1 ?_
  rw [Nat.mod_add_mod]; exact c2
theorem low_ex (f : Nat → Int) : ∀ n, 1 ≤ n → ∃ m, m < n ∧ ∀ i, i < n → f m ≤ f i
  | 0, h => absurd h (by omega)
  | 1, _ => ⟨0, by omega, fun i hi => by
      have : i = 0 := by omega
      subst this; exact Int.le_refl _⟩
  | n + 2, _ => by
    obtain ⟨m, hm, h⟩ := low_ex f (n + 1) (by omega)
    by_cases c : f (n + 1) ≤ f m
    · exact ⟨n + 1, by omega, fun i hi => by
        rcases (by omega : i < n + 1 ∨ i = n + 1) with h1 | rfl
        · exact Int.le_trans c (h i h1)
        · exact Int.le_refl _⟩
    · exact ⟨m, by omega, fun i hi => by
        rcases (by omega : i < n + 1 ∨ i = n + 1) with h1 | rfl
        · exact h i h1
        · omega⟩
/-- Where a corner lies no higher than its neighbours, nothing lies lower. -/
theorem cv_valley {P Q a b c z : Pt} (h0 : 0 < dt b c a) (h1 : 0 ≤ dt a b z) (h2 : 0 ≤ dt b c z) (ha : dt P Q b ≤ dt P Q a) (hc : dt P Q b ≤ dt P Q c) : dt P Q b ≤ dt P Q z := by
  have id : (dt P Q z - dt P Q b) * dt b c a = dt a b z * (dt P Q c - dt P Q b) + dt b c z * (dt P Q a - dt P Q b) := by unfold dt; grind
  have p1 := Int.mul_nonneg h1 (show 0 ≤ dt P Q c - dt P Q b by omega)
  have p2 := Int.mul_nonneg h2 (show 0 ≤ dt P Q a - dt P Q b by omega)
  have : 0 ≤ dt P Q z - dt P Q b := Int.nonneg_of_mul_nonneg_left (by omega) h0
  omega
/-- Of a point to the left of every edge, and any line: some corner lies no higher. -/
theorem cv_low {ps : List Pt} (h : cvxP ps) {z : Pt} (hz : ∀ i, i < ps.length → 0 ≤ dt (hp' ps i) (hp' ps (i + 1)) z) (P Q : Pt) : ∃ k, k < ps.length ∧ dt P Q (hp' ps k) ≤ dt P Q z := by
  have h3 := h.1
  have h0 : 0 < ps.length := by omega
  obtain ⟨m, hm, hl⟩ := low_ex (fun i => dt P Q (hp' ps i)) ps.length (by omega)
  have hz' : ∀ i, 0 ≤ dt (hp' ps i) (hp' ps (i + 1)) z := fun i => by
    have e := cv_mod1 ps i
    rw [← e.1, ← e.2]; exact hz _ (Nat.mod_lt _ h0)
  have hl' : ∀ i, dt P Q (hp' ps m) ≤ dt P Q (hp' ps i) := fun i => by
    rw [← hp_mod ps i]; exact hl _ (Nat.mod_lt _ h0)
  have eb : hp' ps (m + (ps.length - 1) + 1) = hp' ps m := by rw [show m + (ps.length - 1) + 1 = m + ps.length from by omega]; exact hp_add ps m
  have em : (m + (ps.length - 1)) % ps.length = if m = 0 then ps.length - 1 else m - 1 := by
    split
    · next c => rw [c, Nat.zero_add]; exact Nat.mod_eq_of_lt (by omega)
    · rw [show m + (ps.length - 1) = m - 1 + ps.length from by omega, Nat.add_mod_right]; exact Nat.mod_eq_of_lt (by omega)
  have em1 : (m + (ps.length - 1) + 1) % ps.length = m := by
    rw [show m + (ps.length - 1) + 1 = m + ps.length from by omega, Nat.add_mod_right]; exact Nat.mod_eq_of_lt hm
  have em2 : (m + (ps.length - 1) + 1 + 1) % ps.length = if m + 1 = ps.length then 0 else m + 1 := by
    rw [show m + (ps.length - 1) + 1 + 1 = m + 1 + ps.length from by omega, Nat.add_mod_right]
    split
    · next c => rw [c, Nat.mod_self]
    · exact Nat.mod_eq_of_lt (by omega)
  refine ⟨m, hm, ?_⟩
  have hp := cv_pos h (i := m + (ps.length - 1) + 1) (k := m + (ps.length - 1)) (by rw [em, em1]; split <;> omega) (by rw [em, em2]; split <;> split <;> omega)
  have v1 := hz' (m + (ps.length - 1))
  have v2 := hz' (m + (ps.length - 1) + 1)
  rw [eb] at hp v1 v2
  exact cv_valley hp v1 v2 (hl' _) (hl' _)
theorem or3_dts {a b : Pt} (ha : inrP a) (hb : inrP b) (x y : Int) : or3 a b (sat x, sat y) = sgn (dt a b (sat x, sat y)) := by
  unfold or3 orient det dt
  dsimp only
  rw [inr_sat ha.1 ha.2.1, inr_sat ha.2.2.1 ha.2.2.2, inr_sat hb.1 hb.2.1, inr_sat hb.2.2.1 hb.2.2.2, sat_sat, sat_sat]
/-- A point that a polygon contains lies to the left of every edge, and in the polygon's range. -/
theorem con_left {ps : List Pt} {x y : Int} (h : conP ps x y) : ∀ i, i < ps.length → 0 ≤ dt (hp' ps i) (hp' ps (i + 1)) (sat x, sat y) := fun i hi => by
  have h0 : 0 < ps.length := by omega
  have k := h.2 i hi
  rw [or3_dts (h.1.2.2.1 _ (hp_mem _ h0)) (h.1.2.2.1 _ (hp_mem _ h0))] at k
  false_or_by_contra
  exact k (sgn_eqm.2 (by omega))
theorem con_inr {ps : List Pt} {x y : Int} (h : conP ps x y) : inrP (sat x, sat y) := by
  have hl := con_left h
  have h0 : 0 < ps.length := by have := h.1.1; omega
  have hi : ∀ k, inrP (hp' ps k) := fun k => h.1.2.2.1 _ (hp_mem _ h0)
  obtain ⟨k1, _, c1⟩ := cv_low h.1 hl (0, 0) (0, -1)
  obtain ⟨k2, _, c2⟩ := cv_low h.1 hl (0, 0) (0, 1)
  obtain ⟨k3, _, c3⟩ := cv_low h.1 hl (0, 0) (1, 0)
  obtain ⟨k4, _, c4⟩ := cv_low h.1 hl (0, 0) (-1, 0)
  have i1 := hi k1; have i2 := hi k2; have i3 := hi k3; have i4 := hi k4
  unfold dt at c1 c2 c3 c4
  unfold inrP at *
  dsimp only at *
  refine ⟨?_, ?_, ?_, ?_⟩ <;> omega

end Go.Proofs.YtaahgblkmajceaaGreat.Fx
