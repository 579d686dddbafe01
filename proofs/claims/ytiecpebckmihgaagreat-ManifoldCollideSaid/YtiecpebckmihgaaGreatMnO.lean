/- Laws of chapter 16: ManifoldPoints. -/
import Derived.Test.YtiecpebckmihgaaGreatMnL
import Derived.Test.YtiecpebckmihgaaGreatMnU
set_option linter.unusedVariables false
namespace Go.Proofs.YtiecpebckmihgaaGreat
open Go.RowKit Fx

theorem edge_ok (Ka Ra Kb Rb : Int) (ps qs : List (Int × Int)) (px py pa qx qy qa : Int) (v1 : valS Ka Ra ps = 0) (v2 : valS Kb Rb qs = 0) (_ : Ka = 3 ∨ Kb = 3) (kb : Kb ≠ 1) (ka : Ka ≠ 1) (A1 : Option Addr) (c1 : Nat) (A2 : Option Addr) (c2 : Nat) (w' : World) (h1 : Pts w' A1 (ps.map (tr px py pa))) (h2 : Pts w' A2 (qs.map (tr qx qy qa))) : Calls Tryz.prog 45 #[.agg #[.int .i64 Ka, .slice A1 ps.length c1, .int .i64 Ra], .agg #[.int .i64 Kb, .slice A2 qs.length c2, .int .i64 Rb]] w' (MnR w' (facesM (ps.map (tr px py pa)) Ra (qs.map (tr qx qy qa)) Rb)) := by
  have n1 := val_len v1
  have n2 := val_len v2
  have k1 := (valS_zero.1 v1).1
  have k2 := (valS_zero.1 v2).1
  have l1 : 2 ≤ ps.length := by
    rcases (show Ka = 2 ∨ Ka = 3 by omega) with h | h
    · have := n1.2.2.2.1 h; omega
    · have := n1.2.2.2.2 h; omega
  have l2 : 2 ≤ qs.length := by
    rcases (show Kb = 2 ∨ Kb = 3 by omega) with h | h
    · have := n2.2.2.2.1 h; omega
    · have := n2.2.2.2.2 h; omega
  have h := medge_b Ka Ra Kb Rb A1 A2 c1 c2 (ps.map (tr px py pa)) (qs.map (tr qx qy qa)) (by rw [List.length_map]; omega) (by rw [List.length_map]; omega) (by rw [List.length_map]; omega) (by rw [List.length_map]; omega) w' h1 h2
  rw [List.length_map, List.length_map] at h
  exact h

end Go.Proofs.YtiecpebckmihgaaGreat
