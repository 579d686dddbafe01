/- Chapter 23: body.Equal. -/
import Derived.Test.YtdmcdicphohlfaaGreatBt0
import Derived.Test.YtdmcdicphohlfaaGreatBt1
import Derived.Test.YtdmcdicphohlfaaGreatBt2
import Derived.Test.YtdmcdicphohlfaaGreatBt3
set_option linter.unusedVariables false
set_option linter.unusedSimpArgs false
namespace Go.Proofs.YtdmcdicphohlfaaGreat
open Go.RowKit Fx Go.Maps

theorem peqd_b (a b : Bdy) (w : World) (hoa : okL a) (hob : okL b) (Df : Bool) (hDf : Df = true ↔ a.fs.map fx0 = b.fs.map fx0) (ha : BdIn w a) (hb : BdIn w b) : Calls Tryz.prog 36 #[.agg (bdc a).toArray, .agg (bdc b).toArray] w fun e w' => e = .returned (.bool (eqSc a b && Df)) ∧ Below w.heap.size w w' := by
  have e : (eqSc a b && Df) = (((a.i == b.i) && (a.k == b.k) && (a.px == b.px && a.py == b.py && a.pa == b.pa) && (a.vx == b.vx && a.vy == b.vy)) && ((a.av == b.av) && (a.fx == b.fx && a.fy == b.fy) && (a.tq == b.tq) && (a.ld == b.ld)) && ((a.ad == b.ad) && (a.gs == b.gs) && (a.bul == b.bul) && (a.fix == b.fix)) && ((a.nos == b.nos) && (a.asl == b.asl) && (a.idl == b.idl) && Df)) := by unfold eqSc; simp only [Bool.and_assoc]
  rw [e]
  clear e
  cases hq0 : ((a.i == b.i) && (a.k == b.k) && (a.px == b.px && a.py == b.py && a.pa == b.pa) && (a.vx == b.vx && a.vy == b.vy))
  · simp only [Bool.false_and, Bool.true_and, Bool.and_false]
    exact peq0_b a b w  hq0
  obtain ⟨h0, h1, h2, h3⟩ : (a.i == b.i) = true ∧ (a.k == b.k) = true ∧ (a.px == b.px && a.py == b.py && a.pa == b.pa) = true ∧ (a.vx == b.vx && a.vy == b.vy) = true := by simp only [Bool.and_eq_true] at hq0; simp [hq0]
  cases hq1 : ((a.av == b.av) && (a.fx == b.fx && a.fy == b.fy) && (a.tq == b.tq) && (a.ld == b.ld))
  · simp only [Bool.false_and, Bool.true_and, Bool.and_false]
    exact peq1_b a b w h0 h1 h2 h3 hq1
  obtain ⟨h4, h5, h6, h7⟩ : (a.av == b.av) = true ∧ (a.fx == b.fx && a.fy == b.fy) = true ∧ (a.tq == b.tq) = true ∧ (a.ld == b.ld) = true := by simp only [Bool.and_eq_true] at hq1; simp [hq1]
  cases hq2 : ((a.ad == b.ad) && (a.gs == b.gs) && (a.bul == b.bul) && (a.fix == b.fix))
  · simp only [Bool.false_and, Bool.true_and, Bool.and_false]
    exact peq2_b a b w h0 h1 h2 h3 h4 h5 h6 h7 hq2
  obtain ⟨h8, h9, h10, h11⟩ : (a.ad == b.ad) = true ∧ (a.gs == b.gs) = true ∧ (a.bul == b.bul) = true ∧ (a.fix == b.fix) = true := by simp only [Bool.and_eq_true] at hq2; simp [hq2]
  simp only [Bool.true_and]
  exact peq3_b a b w hoa hob Df hDf ha hb h0 h1 h2 h3 h4 h5 h6 h7 h8 h9 h10 h11

theorem peq_b (a b : Bdy) (w : World) (hoa : okL a) (hob : okL b) (D : Bool) (hD : D = true ↔ bd0 a = bd0 b) (ha : BdIn w a) (hb : BdIn w b) : Calls Tryz.prog 36 #[.agg (bdc a).toArray, .agg (bdc b).toArray] w fun e w' => e = .returned (.bool D) ∧ Below w.heap.size w w' := by
  obtain ⟨Df, hDf⟩ : ∃ Df : Bool, Df = true ↔ a.fs.map fx0 = b.fs.map fx0 := by
    by_cases h : a.fs.map fx0 = b.fs.map fx0
    · exact ⟨true, by simp [h]⟩
    · exact ⟨false, by simp [h]⟩
  have e : (eqSc a b && Df) = D := by
    have h1 := eqB_iff a b Df hDf
    rw [← hD] at h1
    exact Bool.eq_iff_iff.2 h1
  rw [← e]
  exact peqd_b a b w hoa hob Df hDf ha hb


end Go.Proofs.YtdmcdicphohlfaaGreat
