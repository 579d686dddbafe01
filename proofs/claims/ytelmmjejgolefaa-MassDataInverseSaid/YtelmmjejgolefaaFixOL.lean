/- Laws of chapter 13: the example, MassDataExact, MassDataCombine, MassDataInverse. -/
import Derived.Test.YtelmmjejgolefaaFixOP
import Derived.Test.YtelmmjejgolefaaMa4
set_option linter.unusedVariables false
namespace Go.Proofs.Ytelmmjejgolefaa
open Go.RowKit Fx

theorem sq_val : valS 3 0 sq = 0 := valS_zero.2 ⟨by decide, by decide, by decide +kernel, by decide, by decide, by unfold polbad; rw [sq_cvx, sq_short, sq_area]; decide⟩
theorem sq_md : ofS 3 0 sq 65536 = ⟨65536, 32768, 32768, 10923⟩ := by
  rw [ofS_3 sq_val (by decide) (by decide) rfl, sq_area, sq_cen]; decide +kernel

theorem square13_b (w : World) : Calls Try.prog 18 #[] w fun e w' => (∃ b, e = .returned (.agg #[.int .i64 3, .int .i64 0, .slice (some ⟨b, 0, none⟩) 4 4]) ∧ Pts w' (some ⟨b, 0, none⟩) sq) ∧ Below w.heap.size w w' := by
  go_enter Try.func18, Try.ntmps18
  go_wp2_with fail
  refine post_named ?_
  intro Z hZ
  have hP : Pts Z (some ⟨w.heap.size + 1, 0, none⟩) sq := by rw [hZ]; exact pts_of_list (t := 28) (ps := sq) (by show blk _ _ #[.int .i64 0, .int .i64 0, .int .i64 65536, .int .i64 0, .int .i64 65536, .int .i64 65536, .int .i64 0, .int .i64 65536] _; first | exact (by repeat (first | with_reducible exact blk_new _ _ _ | ((with_reducible refine blk_at ?_); (simp; done)) | with_reducible apply blk_alloc | with_reducible apply blk_gw | with_reducible apply blk_drew)) | exact (by apply blk_of; (repeat (first  | with_reducible apply blk_drew | with_reducible apply blk_gw | with_reducible apply blk_alloc | with_reducible apply blk_set | ((with_reducible apply blk_other); focus omega))); (first | rfl | simp)))
  have kZ : blk Z w.heap.size #[.int .i64 3, .int .i64 0, .slice (some ⟨w.heap.size + 1, 0, none⟩) 4 4] 25 := by rw [hZ]; first | exact (by repeat (first | with_reducible exact blk_new _ _ _ | ((with_reducible refine blk_at ?_); (simp; done)) | with_reducible apply blk_alloc | with_reducible apply blk_gw | with_reducible apply blk_drew)) | exact (by apply blk_of; (repeat (first  | with_reducible apply blk_drew | with_reducible apply blk_gw | with_reducible apply blk_alloc | with_reducible apply blk_set | ((with_reducible apply blk_other); focus omega))); (first | rfl | simp))
  have hbZ : Below w.heap.size w Z := by rw [hZ]; exact (by repeat (first | with_reducible exact Below.refl _ _ | with_reducible assumption | refine bgw ?_ (by first | (simp; done) | (simp; omega) | omega) _ | refine Below.setCell ?_ (by first | exact Nat.le_of_not_lt (by assumption) | (simp; done) | (simp; omega) | omega) _ | refine Below.alloc ?_ (by first | (simp; done) | (simp; omega) | omega) _ | refine Below.drew ?_))
  clear hZ
  have okZ := blk_older kZ
  have ckZ_0 : _ = some _ := blk_cell kZ 0
  have ckZ_1 : _ = some _ := blk_cell kZ 1
  have ckZ_2 : _ = some _ := blk_cell kZ 2
  have fkZ_0 := blk_free kZ 0
  have fkZ_1 := blk_free kZ 1
  have fkZ_2 := blk_free kZ 2
  exact bodyPost_ret (v := .agg #[.int .i64 3, .int .i64 0, .slice (some ⟨w.heap.size + 1, 0, none⟩) 4 4]) (by simp [results, Try.results18, go_sem, ckZ_0, ckZ_1, ckZ_2]) rfl ⟨⟨_, rfl, hP⟩, hbZ⟩

theorem example13_b (w : World) : Calls Try.prog 9 #[] w fun e w' => e = .returned (.bool true) ∧ Below w.heap.size w w' := by
  have cO : ∀ b w', Pts w' (some ⟨b, 0, none⟩) sq → Calls Try.prog 10 #[.agg #[.int .i64 3, .int .i64 0, .slice (some ⟨b, 0, none⟩) 4 4], .int .i64 65536] w' fun e w'' => e = .returned (.agg #[.int .i64 65536, .int .i64 32768, .int .i64 32768, .int .i64 10923]) ∧ Below w'.heap.size w' w'' := fun b w' h => by
    have := yofs_b 3 0 (some ⟨b, 0, none⟩) 4 sq 65536 (by decide) w' h; rw [sq_md] at this; exact this
  have cI : ∀ w', Calls Try.prog 15 #[.agg #[.int .i64 65536, .int .i64 32768, .int .i64 32768, .int .i64 10923], .int .i64 3, .bool true] w' fun e w'' => e = .returned (.tuple #[.int .i64 65536, .int .i64 0]) ∧ Below w'.heap.size w' w'' := fun w' => by
    have := yinv_b 65536 32768 32768 10923 3 true w'
    rw [show invM 65536 3 = 65536 from by decide +kernel, show invI 10923 3 true = 0 from by decide +kernel] at this; exact this
  have cS := square13_b
  go_enter Try.func9, Try.ntmps9
  go_wp2_with (first | (go_at_call 18; refine Calls.mono (gw_ex (cS _)) ?_; rintro e w1 ⟨⟨b, rfl, hsq⟩, q1, rfl⟩) | (go_at_call 10; refine Calls.mono (gw_at (cO _ _ (Pts.to hsq (by repeat (first | with_reducible exact Below.refl _ _ | with_reducible assumption | refine bgw ?_ (by first | (simp; done) | (simp; omega) | omega) _ | refine Below.setCell ?_ (by first | exact Nat.le_of_not_lt (by assumption) | (simp; done) | (simp; omega) | omega) _ | refine Below.alloc ?_ (by first | (simp; done) | (simp; omega) | omega) _ | refine Below.drew ?_))))) ?_; rintro e w1 ⟨rfl, q, rfl⟩) | (go_at_call 15; refine Calls.mono (gw_at (cI _)) ?_; rintro e w1 ⟨rfl, q, rfl⟩))
  go_ret
  exact ⟨rfl, (by repeat (first | with_reducible exact Below.refl _ _ | with_reducible assumption | refine bgw ?_ (by first | (simp; done) | (simp; omega) | omega) _ | refine Below.setCell ?_ (by first | exact Nat.le_of_not_lt (by assumption) | (simp; done) | (simp; omega) | omega) _ | refine Below.alloc ?_ (by first | (simp; done) | (simp; omega) | omega) _ | refine Below.drew ?_))⟩

theorem walk_MassDataExact (K R : Int) (A : Option Addr) (cap : Nat) (ps : List (Int × Int)) (D : Int) (w : World) (hp : Pts w A ps) (hl : ps.length ≤ cap) (hc : cap ≤ maxLen) : Calls Try.prog 3 #[.agg #[.int .i64 K, .int .i64 R, .slice A ps.length cap], .int .i64 D] w fun e w' => e = .returned (.bool true) ∧ Below w.heap.size w w' := by
  have e0 := example13_b
  by_cases n1 : (20 : Int) < (ps.length : Int)
  focus
    go_enter Try.func3, Try.ntmps3
    go_wp2_with (go_at_call 9; refine Calls.mono (gw_at (e0 _)) ?_; rintro e w1 ⟨rfl, q, rfl⟩)
    go_ret
    exact ⟨rfl, (by repeat (first | with_reducible exact Below.refl _ _ | with_reducible assumption | refine bgw ?_ (by first | (simp; done) | (simp; omega) | omega) _ | refine Below.setCell ?_ (by first | exact Nat.le_of_not_lt (by assumption) | (simp; done) | (simp; omega) | omega) _ | refine Below.alloc ?_ (by first | (simp; done) | (simp; omega) | omega) _ | refine Below.drew ?_))⟩
  have cO := fun w' h => yofs_b K R A cap ps D (by omega) w' h
  have cP := fun w' h => rofs_b K R A cap ps D (by omega) w' h
  generalize ofS K R ps D = P at *
  go_enter Try.func3, Try.ntmps3
  go_wp2_with fail
  refine wp_region_gw (by kernel_rfl) (by kernel_rfl) ?_
  repeat (go_big_quiet_step (first | (go_at_call 10; exact gw_call (cO _ (Pts.to hp (by repeat (first | with_reducible exact Below.refl _ _ | with_reducible assumption | refine bgw ?_ (by first | (simp; done) | (simp; omega) | omega) _ | refine Below.setCell ?_ (by first | exact Nat.le_of_not_lt (by assumption) | (simp; done) | (simp; omega) | omega) _ | refine Below.alloc ?_ (by first | (simp; done) | (simp; omega) | omega) _ | refine Below.drew ?_))))) | (go_at_call 11; exact gw_call (cP _ (Pts.to hp (by repeat (first | with_reducible exact Below.refl _ _ | with_reducible assumption | refine bgw ?_ (by first | (simp; done) | (simp; omega) | omega) _ | refine Below.setCell ?_ (by first | exact Nat.le_of_not_lt (by assumption) | (simp; done) | (simp; omega) | omega) _ | refine Below.alloc ?_ (by first | (simp; done) | (simp; omega) | omega) _ | refine Below.drew ?_))))) | (go_at_call 9; exact gw_call (e0 _))))
  refine wpQuiet_nil ?_
  intro w1 hw1
  obtain ⟨q, rfl⟩ := hw1
  go_wp2_with fail
  go_ret
  exact ⟨rfl, (by repeat (first | with_reducible exact Below.refl _ _ | with_reducible assumption | refine bgw ?_ (by first | (simp; done) | (simp; omega) | omega) _ | refine Below.setCell ?_ (by first | exact Nat.le_of_not_lt (by assumption) | (simp; done) | (simp; omega) | omega) _ | refine Below.alloc ?_ (by first | (simp; done) | (simp; omega) | omega) _ | refine Below.drew ?_))⟩

theorem walk_MassDataCombine (A : Option Addr) (cap : Nat) (l : List Md) (w : World) (ha : Mds w A l) (hl : l.length ≤ cap) (hc : cap ≤ maxLen) : Calls Try.prog 4 #[.slice A l.length cap] w fun e w' => e = .returned (.bool true) ∧ Below w.heap.size w w' := by
  have e0 := example13_b
  by_cases n1 : (20 : Int) < (l.length : Int)
  focus
    go_enter Try.func4, Try.ntmps4
    go_wp2_with (go_at_call 9; refine Calls.mono (gw_at (e0 _)) ?_; rintro e w1 ⟨rfl, q, rfl⟩)
    go_ret
    exact ⟨rfl, (by repeat (first | with_reducible exact Below.refl _ _ | with_reducible assumption | refine bgw ?_ (by first | (simp; done) | (simp; omega) | omega) _ | refine Below.setCell ?_ (by first | exact Nat.le_of_not_lt (by assumption) | (simp; done) | (simp; omega) | omega) _ | refine Below.alloc ?_ (by first | (simp; done) | (simp; omega) | omega) _ | refine Below.drew ?_))⟩
  have cO := fun w' h => ycomb_b A cap l (by omega) w' h
  have cP := fun w' h => rcomb_b A cap l (by omega) w' h
  generalize comb l = P at *
  go_enter Try.func4, Try.ntmps4
  go_wp2_with (first | (go_at_call 12; refine Calls.mono (gw_at (cO _ (Mds.to ha (by repeat (first | with_reducible exact Below.refl _ _ | with_reducible assumption | refine bgw ?_ (by first | (simp; done) | (simp; omega) | omega) _ | refine Below.setCell ?_ (by first | exact Nat.le_of_not_lt (by assumption) | (simp; done) | (simp; omega) | omega) _ | refine Below.alloc ?_ (by first | (simp; done) | (simp; omega) | omega) _ | refine Below.drew ?_))))) ?_; rintro e w1 ⟨rfl, q, rfl⟩) | (go_at_call 13; refine Calls.mono (gw_at (cP _ (Mds.to ha (by repeat (first | with_reducible exact Below.refl _ _ | with_reducible assumption | refine bgw ?_ (by first | (simp; done) | (simp; omega) | omega) _ | refine Below.setCell ?_ (by first | exact Nat.le_of_not_lt (by assumption) | (simp; done) | (simp; omega) | omega) _ | refine Below.alloc ?_ (by first | (simp; done) | (simp; omega) | omega) _ | refine Below.drew ?_))))) ?_; rintro e w1 ⟨rfl, q, rfl⟩) | (go_at_call 9; refine Calls.mono (gw_at (e0 _)) ?_; rintro e w1 ⟨rfl, q, rfl⟩))
  go_ret
  exact ⟨rfl, (by repeat (first | with_reducible exact Below.refl _ _ | with_reducible assumption | refine bgw ?_ (by first | (simp; done) | (simp; omega) | omega) _ | refine Below.setCell ?_ (by first | exact Nat.le_of_not_lt (by assumption) | (simp; done) | (simp; omega) | omega) _ | refine Below.alloc ?_ (by first | (simp; done) | (simp; omega) | omega) _ | refine Below.drew ?_))⟩

theorem walk_MassDataInverse (M x y I k : Int) (f : Bool) (w : World) : Calls Try.prog 6 #[.agg #[.int .i64 M, .int .i64 x, .int .i64 y, .int .i64 I], .int .i64 k, .bool f] w fun e w' => e = .returned (.bool true) ∧ Below w.heap.size w w' := by
  have e0 := example13_b
  have cO := fun w' => yinv_b M x y I k f w'
  have cP := fun w' => rinv_b M x y I k f w'
  have n1 := invM_nn M k
  have n2 := invI_nn I k f
  by_cases hk : k = 3
  · have b1 : (k == 3) = true := by rw [beq_iff_eq]; exact hk
    clear hk
    generalize invM M k = P at *
    generalize invI I k f = Q at *
    go_enter Try.func6, Try.ntmps6
    go_wp2_with (first | (go_at_call 15; refine Calls.mono (gw_at (cO _)) ?_; rintro e w1 ⟨rfl, q, rfl⟩) | (go_at_call 16; refine Calls.mono (gw_at (cP _)) ?_; rintro e w1 ⟨rfl, q, rfl⟩) | (go_at_call 9; refine Calls.mono (gw_at (e0 _)) ?_; rintro e w1 ⟨rfl, q, rfl⟩))
    go_ret
    exact ⟨rfl, (by repeat (first | with_reducible exact Below.refl _ _ | with_reducible assumption | refine bgw ?_ (by first | (simp; done) | (simp; omega) | omega) _ | refine Below.setCell ?_ (by first | exact Nat.le_of_not_lt (by assumption) | (simp; done) | (simp; omega) | omega) _ | refine Below.alloc ?_ (by first | (simp; done) | (simp; omega) | omega) _ | refine Below.drew ?_))⟩
  · have b1 : (k == 3) = false := by rw [beq_eq_false_iff_ne]; exact hk
    rw [show invM M k = 0 from if_pos hk, show invI I k f = 0 from if_pos hk] at cO cP
    clear hk n1 n2
    go_enter Try.func6, Try.ntmps6
    go_wp2_with (first | (go_at_call 15; refine Calls.mono (gw_at (cO _)) ?_; rintro e w1 ⟨rfl, q, rfl⟩) | (go_at_call 16; refine Calls.mono (gw_at (cP _)) ?_; rintro e w1 ⟨rfl, q, rfl⟩) | (go_at_call 9; refine Calls.mono (gw_at (e0 _)) ?_; rintro e w1 ⟨rfl, q, rfl⟩))
    go_ret
    exact ⟨rfl, (by repeat (first | with_reducible exact Below.refl _ _ | with_reducible assumption | refine bgw ?_ (by first | (simp; done) | (simp; omega) | omega) _ | refine Below.setCell ?_ (by first | exact Nat.le_of_not_lt (by assumption) | (simp; done) | (simp; omega) | omega) _ | refine Below.alloc ?_ (by first | (simp; done) | (simp; omega) | omega) _ | refine Below.drew ?_))⟩

end Go.Proofs.Ytelmmjejgolefaa
