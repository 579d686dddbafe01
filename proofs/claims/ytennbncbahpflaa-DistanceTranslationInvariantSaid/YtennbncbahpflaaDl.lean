/- Laws of chapter 17: circle, small, near, the example. -/
import Derived.Test.YtennbncbahpflaaDq
import Derived.Test.YtennbncbahpflaaCo9
set_option linter.unusedVariables false
namespace Go.Proofs.Ytennbncbahpflaa
open Go.RowKit Fx

set_option maxHeartbeats 2000000 in
theorem circ17_b (r : Int) (w : World) : Calls Try.prog 11 #[.int .i64 r] w fun e w' => (∃ b, e = .returned (.agg #[.int .i64 1, .int .i64 r, .slice (some ⟨b, 0, none⟩) 1 1]) ∧ Pts w' (some ⟨b, 0, none⟩) [(0, 0)]) ∧ ∃ q, w' = gw w q := by
  go_enter Try.func11, Try.ntmps11
  go_wp2_with fail
  refine post_named ?_
  intro Z hZ
  have kS : blk Z (w.heap.size + 1) #[.int .i64 0, .int .i64 0] 27 := by rw [hZ]; exact bBkn
  have kZ : blk Z w.heap.size #[.int .i64 1, .int .i64 r, .slice (some ⟨w.heap.size + 1, 0, none⟩) 1 1] 25 := by rw [hZ]; exact bBkn
  have hbZ : Below w.heap.size w Z := by rw [hZ]; exact bBel
  clear hZ
  have okZ := blk_older kZ
  have ckZ_0 : _ = some _ := blk_cell kZ 0
  have ckZ_1 : _ = some _ := blk_cell kZ 1
  have ckZ_2 : _ = some _ := blk_cell kZ 2
  have fkZ_0 := blk_free kZ 0
  have fkZ_1 := blk_free kZ 1
  have fkZ_2 := blk_free kZ 2
  refine bodyPost_ret (v := .agg #[.int .i64 1, .int .i64 r, .slice (some ⟨w.heap.size + 1, 0, none⟩) 1 1]) (by simp [results, Try.results11, go_sem, ckZ_0, ckZ_1, ckZ_2]) rfl ⟨⟨w.heap.size + 1, rfl, ?_⟩, gw_of_below hbZ⟩
  exact .inr ⟨w.heap.size + 1, 0, rfl, fun i hi => by
    obtain rfl : i = 0 := by simp at hi; omega
    exact ⟨blk_cell kS 0, blk_cell kS 1⟩⟩

set_option maxHeartbeats 4000000 in
theorem small17_b (Ka Ra Kb Rb : Int) (A B_ : Option Addr) (ca cb : Nat) (ps qs : List (Int × Int)) (w : World) : Calls Try.prog 6 #[.agg #[.int .i64 Ka, .int .i64 Ra, .slice A ps.length ca], .agg #[.int .i64 Kb, .int .i64 Rb, .slice B_ qs.length cb]] w fun e w' => e = .returned (.bool (decide (ps.length ≤ 20 ∧ qs.length ≤ 20))) ∧ Below w.heap.size w w' := by
  by_cases c1 : (ps.length : Int) ≤ 20
  · by_cases c2 : (qs.length : Int) ≤ 20
    · rw [show decide (ps.length ≤ 20 ∧ qs.length ≤ 20) = true from decide_eq_true ⟨by omega, by omega⟩]
      go_enter Try.func6, Try.ntmps6
      go_wp2_with fail
      all_goals (go_ret; refine ⟨?_, bBel⟩; first | rfl | (simp; done) | (simp; omega) | (simp; rw [Bool.eq_iff_iff]; first | (simp; done) | (simp; omega)))
    · rw [show decide (ps.length ≤ 20 ∧ qs.length ≤ 20) = false from decide_eq_false fun h => by omega]
      go_enter Try.func6, Try.ntmps6
      go_wp2_with fail
      all_goals (go_ret; refine ⟨?_, bBel⟩; first | rfl | (simp; done) | (simp; omega) | (simp; rw [Bool.eq_iff_iff]; first | (simp; done) | (simp; omega)))
  · rw [show decide (ps.length ≤ 20 ∧ qs.length ≤ 20) = false from decide_eq_false fun h => by omega]
    go_enter Try.func6, Try.ntmps6
    go_wp2_with fail
    all_goals (go_ret; refine ⟨?_, bBel⟩; first | rfl | (simp; done) | (simp; omega) | (simp; rw [Bool.eq_iff_iff]; first | (simp; done) | (simp; omega)))

def nrB (x y : Int) : Bool := decide (-67108864 ≤ x) && decide (x ≤ 67108864) && decide (-67108864 ≤ y) && decide (y ≤ 67108864)
theorem nrB_iff {x y : Int} (h : nrB x y = true) : nr x ∧ nr y := by
  unfold nrB at h
  simp only [Bool.and_eq_true, decide_eq_true_eq] at h
  exact ⟨⟨h.1.1.1, h.1.1.2⟩, h.1.2, h.2⟩

set_option maxHeartbeats 4000000 in
theorem near17_b (x y : Int) (w : World) : Calls Try.prog 13 #[.agg #[.int .i64 x, .int .i64 y]] w fun e w' => e = .returned (.bool (nrB x y)) ∧ Below w.heap.size w w' := by
  go_enter Try.func13, Try.ntmps13
  go_wp2_with fail
  all_goals (go_ret; refine ⟨?_, bBel⟩; first | rfl | (simp [nrB]; done) | (simp [nrB]; omega) | (simp [nrB]; rw [Bool.eq_iff_iff]; first | (simp; done) | (simp; omega)))

theorem ex17_s1 : sepS 1 65536 [(0, 0)] 0 0 0 1 65536 [(0, 0)] 262144 0 0 = 131072 := by rw [ex17_sep 0 262144 (by decide) (by decide) (.inl rfl)]; decide
theorem ex17_s2 : sepS 1 65536 [(0, 0)] 262144 0 0 1 65536 [(0, 0)] 262144 0 0 = 0 := by rw [ex17_sep 262144 262144 (by decide) (by decide) (.inr rfl)]; decide
theorem ex17_s3 : sepS 0 0 [] 262144 0 0 1 65536 [(0, 0)] 262144 0 0 = 536870911 := sepS_val _ _ _ _ _ _ (by decide)

set_option maxHeartbeats 8000000 in
theorem example17_b (w : World) : Calls Try.prog 7 #[] w fun e w' => e = .returned (.bool true) ∧ Below w.heap.size w w' := by
  have cC := circ17_b 65536
  have c1 : ∀ A1 A2 w', Pts w' A1 [(0, 0)] → Pts w' A2 [(0, 0)] → Calls Try.prog 8 #[.agg #[.int .i64 1, .int .i64 65536, .slice A1 1 1], .agg #[.int .i64 0, .int .i64 0, .int .i64 0], .agg #[.int .i64 1, .int .i64 65536, .slice A2 1 1], .agg #[.int .i64 262144, .int .i64 0, .int .i64 0]] w' fun e w'' => e = .returned (.int .i64 131072) ∧ Below w'.heap.size w' w'' := fun A1 A2 w' h1 h2 => by
    have := ysep17_b 1 65536 1 65536 A1 A2 1 1 [(0, 0)] [(0, 0)] 0 0 0 262144 0 0 (by simp) (by simp) (by simp) (by simp) w' h1 h2; rw [ex17_s1] at this; exact this
  have c2 : ∀ A1 A2 w', Pts w' A1 [(0, 0)] → Pts w' A2 [(0, 0)] → Calls Try.prog 10 #[.agg #[.int .i64 1, .int .i64 65536, .slice A1 1 1], .agg #[.int .i64 0, .int .i64 0, .int .i64 0], .agg #[.int .i64 1, .int .i64 65536, .slice A2 1 1], .agg #[.int .i64 262144, .int .i64 0, .int .i64 0]] w' fun e w'' => e = .returned (.bool false) ∧ Below w'.heap.size w' w'' := fun A1 A2 w' h1 h2 => by
    have := yovl17_b 1 65536 1 65536 A1 A2 1 1 [(0, 0)] [(0, 0)] 0 0 0 262144 0 0 (by simp) (by simp) (by simp) (by simp) w' h1 h2; rw [ex17_s1] at this; exact this
  have c3 : ∀ A1 A2 w', Pts w' A1 [(0, 0)] → Pts w' A2 [(0, 0)] → Calls Try.prog 10 #[.agg #[.int .i64 1, .int .i64 65536, .slice A1 1 1], .agg #[.int .i64 262144, .int .i64 0, .int .i64 0], .agg #[.int .i64 1, .int .i64 65536, .slice A2 1 1], .agg #[.int .i64 262144, .int .i64 0, .int .i64 0]] w' fun e w'' => e = .returned (.bool true) ∧ Below w'.heap.size w' w'' := fun A1 A2 w' h1 h2 => by
    have := yovl17_b 1 65536 1 65536 A1 A2 1 1 [(0, 0)] [(0, 0)] 262144 0 0 262144 0 0 (by simp) (by simp) (by simp) (by simp) w' h1 h2; rw [ex17_s2] at this; exact this
  have c4 : ∀ A1 w', Pts w' A1 [(0, 0)] → Calls Try.prog 12 #[.agg #[.int .i64 1, .int .i64 65536, .slice A1 1 1], .agg #[.int .i64 262144, .int .i64 0, .int .i64 0], .agg #[.int .i64 0, .int .i64 0]] w' fun e w'' => e = .returned (.int .i64 196608) ∧ Below w'.heap.size w' w'' := fun A1 w' h1 => by
    have := ypt17_b 1 65536 A1 1 [(0, 0)] 262144 0 0 0 0 (by simp) (by simp) w' h1; rw [ex17_pt] at this; exact this
  have c5 : ∀ A2 w', Pts w' A2 [(0, 0)] → Calls Try.prog 8 #[.agg #[.int .i64 0, .int .i64 0, .slice none 0 0], .agg #[.int .i64 262144, .int .i64 0, .int .i64 0], .agg #[.int .i64 1, .int .i64 65536, .slice A2 1 1], .agg #[.int .i64 262144, .int .i64 0, .int .i64 0]] w' fun e w'' => e = .returned (.int .i64 536870911) ∧ Below w'.heap.size w' w'' := fun A2 w' h2 => by
    have := ysep17_b 0 0 1 65536 none A2 0 1 [] [(0, 0)] 262144 0 0 262144 0 0 (by simp) (by simp) (by simp) (by simp) w' (.inl rfl) h2; rw [ex17_s3] at this; exact this
  go_enter Try.func7, Try.ntmps7
  go_upto_region 3 with (go_at_call 11; refine Calls.mono (cC _) ?_; rintro e w1 ⟨⟨b1, rfl, hP1⟩, q1, rfl⟩)
  refine wp_named ?_
  intro W hW
  have kA : blk W (w.heap.size + q1.os.size) #[.int .i64 1, .int .i64 65536, .slice (some ⟨b1, 0, none⟩) 1 1] 25 := by rw [hW]; exact bBkn
  have kT := blk_top hW
  simp at kT
  have hbW : Below w.heap.size w W := by rw [hW]; exact bBel
  have hPW : Pts W (some ⟨b1, 0, none⟩) [(0, 0)] := by rw [hW]; exact Pts.to hP1 bBel
  have hszW := hbW.size
  clear hW hP1
  have okA := blk_older kA
  have ckA_0 : _ = some _ := blk_cell kA 0
  have ckA_1 : _ = some _ := blk_cell kA 1
  have ckA_2 : _ = some _ := blk_cell kA 2
  have fkA_0 := blk_free kA 0
  have fkA_1 := blk_free kA 1
  have fkA_2 := blk_free kA 2
  have okT := blk_older kT
  have ckT_0 : _ = some _ := blk_cell kT 0
  have ckT_1 : _ = some _ := blk_cell kT 1
  have ckT_2 : _ = some _ := blk_cell kT 2
  have fkT_0 := blk_free kT 0
  have fkT_1 := blk_free kT 1
  have fkT_2 := blk_free kT 2
  go_wp2_with (first | (go_at_call 8; (with_reducible show Calls _ _ #[.agg #[.int .i64 1, _, _], _, _, _] _ _); refine Calls.mono (gw_at (c1 _ _ _ (Pts.to hPW bBel) (Pts.to hPW bBel))) ?_; rintro e w1 ⟨rfl, q, rfl⟩) | (go_at_call 8; (with_reducible show Calls _ _ #[.agg #[.int .i64 0, _, _], _, _, _] _ _); refine Calls.mono (gw_at (c5 _ _ (Pts.to hPW bBel))) ?_; rintro e w1 ⟨rfl, q, rfl⟩) | (go_at_call 10; (with_reducible show Calls _ _ #[_, .agg #[.int .i64 0, _, _], _, _] _ _); refine Calls.mono (gw_at (c2 _ _ _ (Pts.to hPW bBel) (Pts.to hPW bBel))) ?_; rintro e w1 ⟨rfl, q, rfl⟩) | (go_at_call 10; (with_reducible show Calls _ _ #[_, .agg #[.int .i64 262144, _, _], _, _] _ _); refine Calls.mono (gw_at (c3 _ _ _ (Pts.to hPW bBel) (Pts.to hPW bBel))) ?_; rintro e w1 ⟨rfl, q, rfl⟩) | (go_at_call 12; refine Calls.mono (gw_at (c4 _ _ (Pts.to hPW bBel))) ?_; rintro e w1 ⟨rfl, q, rfl⟩))
  go_ret
  exact ⟨rfl, bBel⟩

end Go.Proofs.Ytennbncbahpflaa
