/- Contracts of the reference of chapter 11: inRange, IsConvex.
Contracts of the reference of chapter 11, continued: cross, Area, Contains, ShortestEdge, Support.
Contracts of the reference of chapter 11, continued: Area, Contains, ShortestEdge, Support.
Contracts of the reference of chapter 11, continued: ShortestEdge, Support.
Contracts of the reference of chapter 11, continued: Centroid.
Contracts of the reference of chapter 11, continued: EqualPoints. -/
import Derived.Test.YtpdhfhcfjdnlpaaCo4
import Derived.Test.YtpdhfhcfjdnlpaaMa4
import Derived.RegionTactic
import Derived.BigRegion
import Derived.Deep.RegionHeld3
import Derived.Deep.DeepCutAuto

set_option linter.unusedVariables false
namespace Go.Proofs.Ytpdhfhcfjdnlpaa
open Go.RowKit Fx

theorem hp_get {ps : List Pt} {i : Nat} (h : i < ps.length) : hp' ps i = ps[i] := hp_lt h
theorem inr_get {ps : List Pt} {i : Nat} (h : i < ps.length) : inr2 ps[i].1 ps[i].2 = decide (inrP ps[i]) := rfl

end Go.Proofs.Ytpdhfhcfjdnlpaa

set_option linter.unusedVariables false
namespace Go.Proofs.Ytpdhfhcfjdnlpaa
open Go.RowKit Fx

theorem pts_open {w : World} {A : Option Addr} {ps : List (Int × Int)} (ha : Pts w A ps) (h0 : 0 < ps.length) : ∃ b off, A = some ⟨b, off, none⟩ ∧ ∀ (p : Gw) (i : Nat) (h : i < ps.length), (gw w p).cell? ⟨b, off + i * 2, none⟩ = some (.int .i64 ps[i].1) ∧ (gw w p).cell? ⟨b, off + i * 2 + 1, none⟩ = some (.int .i64 ps[i].2) := by
  rcases ha with h | ⟨b, off, rfl, hc⟩
  · rw [h] at h0; simp at h0
  refine ⟨b, off, rfl, fun p i h => ?_⟩
  obtain ⟨d0, d1⟩ := hc i h
  have hb := World.block_lt_of_cell? w ⟨b, off + i * 2, none⟩ d0
  exact ⟨(cell_gw p hb).trans d0, (cell_gw (a := ⟨b, off + i * 2 + 1, none⟩) p hb).trans d1⟩
theorem gw_zero (w : World) : gw w ⟨w.drawn, #[]⟩ = w := by unfold gw; simp
theorem pts_open0 {w : World} {A : Option Addr} {ps : List (Int × Int)} (ha : Pts w A ps) (h0 : 0 < ps.length) : ∃ b off, A = some ⟨b, off, none⟩ ∧ ∀ (i : Nat) (h : i < ps.length), w.cell? ⟨b, off + i * 2, none⟩ = some (.int .i64 ps[i].1) ∧ w.cell? ⟨b, off + i * 2 + 1, none⟩ = some (.int .i64 ps[i].2) := by
  obtain ⟨b, off, rfl, hc⟩ := pts_open ha h0
  exact ⟨b, off, rfl, fun i h => by have := hc ⟨w.drawn, #[]⟩ i h; rw [gw_zero] at this; exact this⟩

end Go.Proofs.Ytpdhfhcfjdnlpaa

set_option linter.unusedVariables false
namespace Go.Proofs.Ytpdhfhcfjdnlpaa
open Go.RowKit Fx

end Go.Proofs.Ytpdhfhcfjdnlpaa

set_option linter.unusedVariables false
namespace Go.Proofs.Ytpdhfhcfjdnlpaa
open Go.RowKit Fx

theorem next_mod {k n : Nat} : ((k : Int) + 1).tmod (n : Int) = (((k + 1) % n : Nat) : Int) := by
  rw [show (k : Int) + 1 = ((k + 1 : Nat) : Int) from by omega]; first | exact (Int.ofNat_tmod _ _).symm | exact (Int.natCast_tmod _ _).symm | (rw [Int.tmod_eq_emod_of_nonneg (by omega)]; exact (Int.natCast_emod _ _).symm)

theorem dots_in (p : Pt) (x y : Int) : -576460752303423488 ≤ dots p x y ∧ dots p x y ≤ 576460752303423488 := by
  have a0 := sat_le p.1; have a1 := sat_ge p.1; have b0 := sat_le p.2; have b1 := sat_ge p.2
  have c0 := sat_le x; have c1 := sat_ge x; have d0 := sat_le y; have d1 := sat_ge y
  have m1 := mul_between (a := sat p.1) (b := sat x) (A := 536870912) (B := 536870912) (by omega) (by omega) (by omega) (by omega)
  have m2 := mul_between (a := sat p.2) (b := sat y) (A := 536870912) (B := 536870912) (by omega) (by omega) (by omega) (by omega)
  unfold dots; omega

end Go.Proofs.Ytpdhfhcfjdnlpaa

set_option linter.unusedVariables false
namespace Go.Proofs.Ytpdhfhcfjdnlpaa
open Go.RowKit Fx

theorem post_nmd {P : Program} {fn : Func} {R : Ending → World → Prop} {a : Act} {w : World} {x : Exit} (h : ∀ Z, Z = w → bodyPost P fn R x a Z) : bodyPost P fn R x a w := h w rfl
theorem rdiv_abs (n d : Int) : -n.natAbs ≤ rdiv n d ∧ rdiv n d ≤ n.natAbs := by
  unfold rdiv
  split
  · rename_i h
    exact rcore_bounds (by unfold rok at h; simp only [Bool.and_eq_true, decide_eq_true_iff] at h; omega)
  · omega

end Go.Proofs.Ytpdhfhcfjdnlpaa

set_option linter.unusedVariables false
namespace Go.Proofs.Ytpdhfhcfjdnlpaa
open Go.RowKit Fx

end Go.Proofs.Ytpdhfhcfjdnlpaa
