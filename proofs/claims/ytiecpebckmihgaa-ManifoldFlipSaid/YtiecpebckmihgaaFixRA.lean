/- Chapter 15: the functions that the contracts of package clip and of its reference speak of; contracts of the reference. -/
import Derived.Test.YtiecpebckmihgaaFixQA
import Derived.Test.YtiecpebckmihgaaVt
set_option linter.unusedVariables false
namespace Go.Proofs.Ytiecpebckmihgaa
open Go.RowKit Fx

/-- How far a vertex lies behind the line. -/
def hpD (v : Vtx) (ox oy nx ny : Int) : Int := dot nx ny (sub v.x ox) (sub v.y oy)
/-- A vertex with distance d, whose neighbour has distance e, clipped. -/
def hpA (v u : Vtx) (d e : Int) : Vtx := if 0 < d then ⟨lerp v.x u.x (ratio d (d - e)), lerp v.y u.y (ratio d (d - e)), v.id⟩ else v
def hpE (v u : Vtx) (d e : Int) : List Vtx := if 0 < d ∧ 0 < e then [] else [hpA v u d e, hpA u v e d]
/-- HalfPlane. -/
def hpl : List Vtx → Int → Int → Int → Int → List Vtx
  | [v, u], ox, oy, nx, ny => hpE v u (hpD v ox oy nx ny) (hpD u ox oy nx ny)
  | _, _, _, _, _ => []
/-- ToEdge. -/
def toE (ps : List Pt) (i : Int) (qs : List Pt) (k : Int) : List Vtx :=
  if eOK ps i ∧ eOK qs k then
    hpl (hpl [⟨(hp' qs k.toNat).1, (hp' qs k.toNat).2, 0⟩, ⟨(hp' qs (k.toNat + 1)).1, (hp' qs (k.toNat + 1)).2, 1⟩] (hp' ps (i.toNat + 1)).1 (hp' ps (i.toNat + 1)).2 (eDir ps i).1 (eDir ps i).2)
      (hp' ps i.toNat).1 (hp' ps i.toNat).2 (-(eDir ps i).1) (-(eDir ps i).2)
  else []
theorem hpl_not {l : List Vtx} (h : l.length ≠ 2) (ox oy nx ny : Int) : hpl l ox oy nx ny = [] := by
  match l, h with
  | [], _ => rfl
  | [_], _ => rfl
  | [_, _], h => exact absurd rfl h
  | _ :: _ :: _ :: _, _ => rfl
theorem hpE_len (v u : Vtx) (d e : Int) : (hpE v u d e).length = 0 ∨ ∃ a b, hpE v u d e = [a, b] ∧ a.id = v.id ∧ b.id = u.id := by
  unfold hpE
  split
  · exact .inl rfl
  · refine .inr ⟨_, _, rfl, ?_, ?_⟩ <;> (unfold hpA; split <;> rfl)
theorem hpl_len (l : List Vtx) (ox oy nx ny : Int) : hpl l ox oy nx ny = [] ∨ ∃ v u a b, l = [v, u] ∧ hpl l ox oy nx ny = [a, b] ∧ a.id = v.id ∧ b.id = u.id := by
  by_cases h : l.length = 2
  · obtain ⟨v, u, rfl⟩ := len_2 h
    rcases hpE_len v u (hpD v ox oy nx ny) (hpD u ox oy nx ny) with h | ⟨a, b, h, h1, h2⟩
    · exact .inl (List.eq_nil_of_length_eq_zero h)
    · exact .inr ⟨v, u, a, b, rfl, h, h1, h2⟩
  · exact .inl (hpl_not h _ _ _ _)
theorem toE_len (ps : List Pt) (i : Int) (qs : List Pt) (k : Int) : toE ps i qs k = [] ∨ ∃ a b, toE ps i qs k = [a, b] ∧ a.id = 0 ∧ b.id = 1 := by
  unfold toE
  split
  · rcases hpl_len (hpl [⟨(hp' qs k.toNat).1, (hp' qs k.toNat).2, 0⟩, ⟨(hp' qs (k.toNat + 1)).1, (hp' qs (k.toNat + 1)).2, 1⟩] (hp' ps (i.toNat + 1)).1 (hp' ps (i.toNat + 1)).2 (eDir ps i).1 (eDir ps i).2) (hp' ps i.toNat).1 (hp' ps i.toNat).2 (-(eDir ps i).1) (-(eDir ps i).2) with h | ⟨v, u, a, b, h1, h2, h3, h4⟩
    · exact .inl h
    · refine .inr ⟨a, b, h2, ?_, ?_⟩
      · rcases hpl_len [⟨(hp' qs k.toNat).1, (hp' qs k.toNat).2, 0⟩, ⟨(hp' qs (k.toNat + 1)).1, (hp' qs (k.toNat + 1)).2, 1⟩] (hp' ps (i.toNat + 1)).1 (hp' ps (i.toNat + 1)).2 (eDir ps i).1 (eDir ps i).2 with g | ⟨v', u', a', b', g1, g2, g3, g4⟩
        · rw [g] at h1; simp at h1
        · rw [g2] at h1; simp at h1 g1; rw [h3, ← h1.1, g3, ← g1.1]
      · rcases hpl_len [⟨(hp' qs k.toNat).1, (hp' qs k.toNat).2, 0⟩, ⟨(hp' qs (k.toNat + 1)).1, (hp' qs (k.toNat + 1)).2, 1⟩] (hp' ps (i.toNat + 1)).1 (hp' ps (i.toNat + 1)).2 (eDir ps i).1 (eDir ps i).2 with g | ⟨v', u', a', b', g1, g2, g3, g4⟩
        · rw [g] at h1; simp at h1
        · rw [g2] at h1; simp at h1 g1; rw [h4, ← h1.2, g4, ← g1.2]
  · exact .inl rfl
theorem then_nm {N : Act → World → Prop} {Q : Exit → Act → World → Prop} {x : Exit} {a : Act} {w : World} (h : ∀ W, W = w → Exit.then N Q x a W) : Exit.then N Q x a w := h w rfl
theorem list_nm {P : Program} {ops : Array Oper} {Q : Exit → Act → World → Prop} {rest : List Oper} {a : Act} {w : World} (h : ∀ W, W = w → wpList P ops Q rest a W) : wpList P ops Q rest a w := h w rfl
theorem hdot_in (a b c d : Int) : -536870911 ≤ dot a b c d ∧ dot a b c d ≤ 536870911 := ⟨sat_ge _, sat_le _⟩
/-- What a call that hands back vertices ends in. -/
def VtxR (w : World) (R : List Vtx) (e : Ending) (w' : World) : Prop := (∃ A' cap', e = .returned (.slice A' R.length cap') ∧ R.length ≤ cap' ∧ cap' ≤ maxLen ∧ Vts w' A' R ∧ (A' = none → cap' = 0)) ∧ Below w.heap.size w w'
theorem vts_two {w : World} {b : Nat} {t : TypeId} {v u : Vtx} (h : blk w b #[.int .i64 v.x, .int .i64 v.y, .int .i64 v.id, .int .i64 u.x, .int .i64 u.y, .int .i64 u.id] t) : Vts w (some ⟨b, 0, none⟩) [v, u] :=
  .inr ⟨b, 0, rfl, fun i hi => ⟨vtc [v, u][i], rfl, fun j hj => by
    have : i = 0 ∨ i = 1 := by simp at hi; omega
    rcases this with rfl | rfl
    · rw [Nat.zero_mul, Nat.zero_add, blk_cell h]
      match j, hj with
      | 0, _ => rfl
      | 1, _ => rfl
      | 2, _ => rfl
    · rw [Nat.one_mul, Nat.zero_add, blk_cell h]
      match j, hj with
      | 0, _ => rfl
      | 1, _ => rfl
      | 2, _ => rfl, rfl⟩⟩
theorem vts_cells {w : World} {A : Option Addr} {v u : Vtx} (h : Vts w A [v, u]) : ∃ b off, A = some ⟨b, off, none⟩ ∧ ∀ w', Below w.heap.size w w' → w'.cell? ⟨b, off, none⟩ = some (.int .i64 v.x) ∧ w'.cell? ⟨b, off + 1, none⟩ = some (.int .i64 v.y) ∧ w'.cell? ⟨b, off + 2, none⟩ = some (.int .i64 v.id) ∧ w'.cell? ⟨b, off + 3, none⟩ = some (.int .i64 u.x) ∧ w'.cell? ⟨b, off + 4, none⟩ = some (.int .i64 u.y) ∧ w'.cell? ⟨b, off + 5, none⟩ = some (.int .i64 u.id) := by
  obtain ⟨b, off, rfl, hc⟩ := vts_open h (by simp)
  refine ⟨b, off, rfl, fun w' hb => ?_⟩
  obtain ⟨h1, h2, h3⟩ := hc 0 (by simp) w' hb
  obtain ⟨h4, h5, h6⟩ := hc 1 (by simp) w' hb
  exact ⟨h1, h2, h3, h4, h5, h6⟩

theorem vtxr_ex {P : Program} {f : FuncId} {args : Array Value} {w : World} {R : List Vtx} (h : Calls P f args w (VtxR w R)) : Calls P f args w fun e w' => (∃ A' cap', e = .returned (.slice A' R.length cap') ∧ R.length ≤ cap' ∧ cap' ≤ maxLen ∧ Vts w' A' R ∧ (A' = none → cap' = 0)) ∧ ∃ q, w' = gw w q := gw_ex h
theorem hunit_in (c l : Int) : -536870911 ≤ unit c l ∧ unit c l ≤ 536870911 := by
  unfold unit
  split
  · omega
  · rw [← quo_sat]; exact ⟨sat_ge _, sat_le _⟩
theorem eDir_in (ps : List Pt) (i : Int) : (-536870911 ≤ (eDir ps i).1 ∧ (eDir ps i).1 ≤ 536870911) ∧ -536870911 ≤ (eDir ps i).2 ∧ (eDir ps i).2 ≤ 536870911 := by
  unfold eDir
  split
  · exact ⟨hunit_in _ _, hunit_in _ _⟩
  · decide
theorem toE_not {ps qs : List Pt} {i k : Int} (h : ¬ (eOK ps i ∧ eOK qs k)) : toE ps i qs k = [] := if_neg h

theorem mod_next {n k : Nat} (h : 0 < n) : ((k : Int) + 1).tmod (n : Int) = (((k + 1) % n : Nat) : Int) := by
  rw [show (k : Int) + 1 = ((k + 1 : Nat) : Int) from by omega]; first | exact (Int.ofNat_tmod _ _).symm | exact (Int.natCast_tmod _ _).symm | (rw [Int.tmod_eq_emod_of_nonneg (by omega)]; exact (Int.natCast_emod _ _).symm)

end Go.Proofs.Ytiecpebckmihgaa
