/- Contracts of chapter 16's statements' own functions: circle, example; Collide, but for shapes with edges. -/
import Derived.Test.YtiecpebckmihgaaGreatMnZ
import Derived.Test.YtiecpebckmihgaaGreatMnM
set_option linter.unusedVariables false
namespace Go.Proofs.YtiecpebckmihgaaGreat
open Go.RowKit Fx

theorem tr_sat (px py a : Int) (p : Pt) : sat (tr px py a p).1 = (tr px py a p).1 ∧ sat (tr px py a p).2 = (tr px py a p).2 := ⟨add_sat _ _, add_sat _ _⟩

theorem mcol_b (Ka Ra Kb Rb : Int) (A B_ : Option Addr) (ca cb : Nat) (ps qs : List (Int × Int)) (px py pa qx qy qa : Int) (hl : ps.length ≤ 1000) (hm : qs.length ≤ 1000) (hk : ps.length ≤ ca) (hj : qs.length ≤ cb)
    (hE : valS Ka Ra ps = 0 → valS Kb Rb qs = 0 → (Ka = 3 ∨ Kb = 3) → Kb ≠ 1 → Ka ≠ 1 → ∀ A1 c1 A2 c2 w', Pts w' A1 (ps.map (tr px py pa)) → Pts w' A2 (qs.map (tr qx qy qa)) → Calls Tryz.prog 45 #[.agg #[.int .i64 Ka, .slice A1 ps.length c1, .int .i64 Ra], .agg #[.int .i64 Kb, .slice A2 qs.length c2, .int .i64 Rb]] w' (MnR w' (facesM (ps.map (tr px py pa)) Ra (qs.map (tr qx qy qa)) Rb)))
    (w : World) (ha : Pts w A ps) (hb : Pts w B_ qs) : Calls Tryz.prog 8 #[.agg #[.int .i64 Ka, .int .i64 Ra, .slice A ps.length ca], .agg #[.int .i64 px, .int .i64 py, .int .i64 pa], .agg #[.int .i64 Kb, .int .i64 Rb, .slice B_ qs.length cb], .agg #[.int .i64 qx, .int .i64 qy, .int .i64 qa]] w
      (MnT w (col Ka Ra ps px py pa Kb Rb qs qx qy qa) (decide ((col Ka Ra ps px py pa Kb Rb qs qx qy qa).l ≠ []))) := by
  refine mcolX_b Ka Ra Kb Rb A B_ ca cb ps qs px py pa qx qy qa (colC Ka Ra (ps.map (tr px py pa)) Kb Rb (qs.map (tr qx qy qa))) hl hm hk hj (fun v1 v2 A1 c1 A2 c2 w' h1 h2 => ?_) w ha hb
  have n1 := val_len v1
  have n2 := val_len v2
  have k1 := (valS_zero.1 v1).1
  have k2 := (valS_zero.1 v2).1
  by_cases c1' : Ka ≠ 3 ∧ Kb ≠ 3
  · obtain ⟨m, hm'⟩ : ∃ m, ps.length = m + 1 := ⟨ps.length - 1, by omega⟩
    obtain ⟨n, hn'⟩ : ∃ n, qs.length = n + 1 := ⟨qs.length - 1, by omega⟩
    have e : colC Ka Ra (ps.map (tr px py pa)) Kb Rb (qs.map (tr qx qy qa)) = segM (cps (hp' (ps.map (tr px py pa)) 0).1 (hp' (ps.map (tr px py pa)) 0).2 (hp' (ps.map (tr px py pa)) m).1 (hp' (ps.map (tr px py pa)) m).2 (hp' (qs.map (tr qx qy qa)) 0).1 (hp' (qs.map (tr qx qy qa)) 0).2 (hp' (qs.map (tr qx qy qa)) n).1 (hp' (qs.map (tr qx qy qa)) n).2) Ra Rb := by
      unfold colC; rw [if_pos c1', List.length_map, List.length_map, hm', hn', Nat.add_sub_cancel, Nat.add_sub_cancel]
    rw [e, hm', hn']
    exact mtouch1_b Ka Ra Kb Rb A1 A2 c1 c2 (m + 1) (n + 1) _ _ _ (by rw [bne_iff_ne]; exact c1'.1) (by rw [bne_iff_ne]; exact c1'.2) (fun w2 g1 g2 => mrnd_b Ka Ra Kb Rb A1 A2 c1 c2 m n _ _ (by rw [List.length_map, hm']) (by rw [List.length_map, hn']) (by omega) (by omega) w2 g1 g2) w' h1 h2
  by_cases c2' : Kb = 1
  · obtain ⟨q, rfl⟩ := List.length_eq_one_iff.1 (n2.2.2.1 c2')
    have e : colC Ka Ra (ps.map (tr px py pa)) Kb Rb ([q].map (tr qx qy qa)) = polM (ps.map (tr px py pa)) (tr qx qy qa q).1 (tr qx qy qa q).2 Rb := by
      unfold colC; rw [if_neg c1', if_pos c2']; rfl
    rw [e]
    have h3 : Ka = 3 := by omega
    refine mtouch2_b Ka Ra Kb Rb A1 A2 c1 c2 ps.length 1 _ _ _ (by rw [bne_eq_false_iff_eq]; exact h3) (by rw [beq_iff_eq]; exact c2') (fun w2 g1 g2 => ?_) w' h1 h2
    have := mpol_b Ka Ra Kb Rb A1 A2 c1 c2 (ps.map (tr px py pa)) (tr qx qy qa q).1 (tr qx qy qa q).2 (by rw [List.length_map]; have := n1.2.2.2.2 h3; omega) (by rw [List.length_map]; omega) (tr_sat qx qy qa q).1 (tr_sat qx qy qa q).2 w2 g1 g2
    rw [List.length_map] at this
    exact this
  by_cases c3' : Ka = 1
  · obtain ⟨p, rfl⟩ := List.length_eq_one_iff.1 (n1.2.2.1 c3')
    have e : colC Ka Ra ([p].map (tr px py pa)) Kb Rb (qs.map (tr qx qy qa)) = (polM (qs.map (tr qx qy qa)) (tr px py pa p).1 (tr px py pa p).2 Ra).flip := by
      unfold colC; rw [if_neg c1', if_neg c2', if_pos c3']; rfl
    rw [e]
    have h3 : Kb = 3 := by omega
    refine mtouch3_b Ka Ra Kb Rb A1 A2 c1 c2 1 qs.length _ _ _ (by rw [bne_iff_ne]; omega) (by rw [bne_eq_false_iff_eq]; exact h3) (by rw [beq_eq_false_iff_ne]; exact c2') (by rw [beq_iff_eq]; exact c3') ?_ (fun w2 g1 g2 => ?_) w' h1 h2
    · have hok : (polM (qs.map (tr qx qy qa)) (tr px py pa p).1 (tr px py pa p).2 Ra).ok := ok_one _ _ _ _ _
      generalize polM (qs.map (tr qx qy qa)) (tr px py pa p).1 (tr px py pa p).2 Ra = MM at *
      rcases hok.2 with h | ⟨c, h⟩ | ⟨c, d, h, _⟩ <;> rw [h] <;> simp
    · have := mpol_b Kb Rb Ka Ra A2 A1 c2 c1 (qs.map (tr qx qy qa)) (tr px py pa p).1 (tr px py pa p).2 (by rw [List.length_map]; have := n2.2.2.2.2 h3; omega) (by rw [List.length_map]; omega) (tr_sat px py pa p).1 (tr_sat px py pa p).2 w2 g2 g1
      rw [List.length_map] at this
      exact this
  have e : colC Ka Ra (ps.map (tr px py pa)) Kb Rb (qs.map (tr qx qy qa)) = facesM (ps.map (tr px py pa)) Ra (qs.map (tr qx qy qa)) Rb := by
    unfold colC; rw [if_neg c1', if_neg c2', if_neg c3']
  rw [e]
  have hor : Ka = 3 ∨ Kb = 3 := by omega
  by_cases c4 : Ka = 3
  · exact mtouch4_b Ka Ra Kb Rb A1 A2 c1 c2 ps.length qs.length _ _ _ (by rw [bne_eq_false_iff_eq]; exact c4) (by rw [beq_eq_false_iff_ne]; exact c2') (by rw [beq_eq_false_iff_ne]; exact c3') (fun w2 g1 g2 => hE v1 v2 hor c2' c3' A1 c1 A2 c2 w2 g1 g2) w' h1 h2
  · exact mtouch5_b Ka Ra Kb Rb A1 A2 c1 c2 ps.length qs.length _ _ _ (by rw [bne_iff_ne]; exact c4) (by rw [bne_eq_false_iff_eq]; omega) (by rw [beq_eq_false_iff_ne]; exact c2') (by rw [beq_eq_false_iff_ne]; exact c3') (fun w2 g1 g2 => hE v1 v2 hor c2' c3' A1 c1 A2 c2 w2 g1 g2) w' h1 h2

set_option maxHeartbeats 2000000 in
theorem circ_b (r : Int) (w : World) : Calls Tryz.prog 13 #[.int .i64 r] w fun e w' => (∃ b, e = .returned (.agg #[.int .i64 1, .int .i64 r, .slice (some ⟨b, 0, none⟩) 1 1]) ∧ Pts w' (some ⟨b, 0, none⟩) [(0, 0)]) ∧ ∃ q, w' = gw w q := by
  go_enter Tryz.func13, Tryz.ntmps13
  go_wp2_with fail
  refine post_named ?_
  intro Z hZ
  have kS : blk Z (w.heap.size + 1) #[.int .i64 0, .int .i64 0] 27 := by rw [hZ]; exact bBkn
  have kZ : blk Z w.heap.size #[.int .i64 1, .int .i64 r, .slice (some ⟨w.heap.size + 1, 0, none⟩) 1 1] 25 := by rw [hZ]; exact bBkn
  have hbZ : Below w.heap.size w Z := by rw [hZ]; exact bBel
  clear hZ
  have okZ := blk_older kZ
  have ckZ_0 : _ = some _ := blk_cell kZ 0
  have ckZ_1 : _ = some _ := blk_cell kZ 1
  have ckZ_2 : _ = some _ := blk_cell kZ 2
  have fkZ_0 := blk_free kZ 0
  have fkZ_1 := blk_free kZ 1
  have fkZ_2 := blk_free kZ 2
  refine bodyPost_ret (v := .agg #[.int .i64 1, .int .i64 r, .slice (some ⟨w.heap.size + 1, 0, none⟩) 1 1]) (by simp [results, Tryz.results13, go_sem, ckZ_0, ckZ_1, ckZ_2]) rfl ⟨⟨w.heap.size + 1, rfl, ?_⟩, gw_of_below hbZ⟩
  exact .inr ⟨w.heap.size + 1, 0, rfl, fun i hi => by
    obtain rfl : i = 0 := by simp at hi; omega
    exact ⟨blk_cell kS 0, blk_cell kS 1⟩⟩

end Go.Proofs.YtiecpebckmihgaaGreat
