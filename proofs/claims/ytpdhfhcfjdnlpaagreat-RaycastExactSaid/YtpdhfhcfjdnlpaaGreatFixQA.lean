/- Contracts of the reference of chapter 14. -/
import Derived.Test.YtpdhfhcfjdnlpaaGreatCo7
import Derived.Test.YtpdhfhcfjdnlpaaGreatCo2
import Derived.Test.YtpdhfhcfjdnlpaaGreatSx
set_option linter.unusedVariables false
namespace Go.Proofs.YtpdhfhcfjdnlpaaGreat
open Go.RowKit Fx

theorem redge0_b (A : Option Addr) (cap : Nat) (ps : List (Int × Int)) (i : Int) (h : ¬ eOK ps i) (w : World) : Calls Tryz.prog 90 #[.slice A ps.length cap, .int .i64 i] w fun e w' => e = .returned (.tuple #[.agg #[.int .i64 0, .int .i64 0], .bool false]) ∧ Below w.heap.size w w' := by
  have hc : (ps.length : Int) < 2 ∨ (¬ (ps.length : Int) < 2 ∧ i < 0) ∨ (¬ (ps.length : Int) < 2 ∧ ¬ i < 0 ∧ (ps.length : Int) ≤ i) := by unfold eOK at h; omega
  clear h
  rcases hc with c | ⟨c, d⟩ | ⟨c, d, f⟩
  all_goals
    go_enter Tryz.func90, Tryz.ntmps90
    go_wp2_with fail
    exact bodyPost_ret (v := .tuple #[.agg #[.int .i64 0, .int .i64 0], .bool false]) (by simp [results, Tryz.results90, go_sem]) rfl ⟨rfl, bBel⟩

set_option maxHeartbeats 1000000 in
theorem redge1_b (A : Option Addr) (cap : Nat) (ps : List (Int × Int)) (k : Nat) (h : eOK ps k) (hl : ps.length ≤ 4611686018427387904) (w : World) (ha : Pts w A ps) : Calls Tryz.prog 90 #[.slice A ps.length cap, .int .i64 (k : Int)] w fun e w' => e = .returned (.tuple #[.agg #[.int .i64 (eX ps k), .int .i64 (eY ps k)], .bool true]) ∧ Below w.heap.size w w' := by
  obtain ⟨h2, h0, h1⟩ := h
  have hlt : k < ps.length := by omega
  have n2 : ¬ (ps.length : Int) < 2 := by omega
  have i0 : ¬ (k : Int) < 0 := by omega
  have i1 : ¬ (ps.length : Int) ≤ (k : Int) := by omega
  have i2 : (k : Int) < (ps.length : Int) := by omega
  have hmod := Nat.mod_lt (k + 1) (show 0 < ps.length by omega)
  have hm : ((k : Int) + 1).tmod (ps.length : Int) = (((k + 1) % ps.length : Nat) : Int) := by
    rw [show (k : Int) + 1 = ((k + 1 : Nat) : Int) from by omega]; first | exact (Int.ofNat_tmod _ _).symm | exact (Int.natCast_tmod _ _).symm | (rw [Int.tmod_eq_emod_of_nonneg (by omega)]; exact (Int.natCast_emod _ _).symm)
  have hnz : ((ps.length : Int) == 0) = false := by rw [beq_eq_false_iff_ne]; omega
  obtain ⟨b, off, rfl, hc⟩ := pts_open0 ha (by omega)
  unfold eX eY
  rw [← hp_mod ps (k + 1)]
  generalize (k + 1) % ps.length = nx at *
  rw [hp_get hlt, hp_get hmod]
  have x0 : (0 : Int) ≤ (nx : Int) := by omega
  have x1 : (nx : Int) < (ps.length : Int) := by omega
  have k0 : (0 : Int) ≤ (k : Int) := by omega
  obtain ⟨d0, d1⟩ := hc k hlt
  obtain ⟨f0, f1⟩ := hc nx hmod
  have ob := older_of_cell d0
  have kmax : (k : Int) + 1 ≤ (ps.length : Int) := by omega
  clear hc ha h0 h1 h2
  generalize ps[k].1 = xk at *
  generalize ps[k].2 = yk at *
  generalize ps[nx].1 = xn at *
  generalize ps[nx].2 = yn at *
  go_enter Tryz.func90, Tryz.ntmps90
  go_wp2_with (first | (go_at_call 41; refine Calls.mono (gw_at (rvsub_b _ _ _ _ _)) ?_; rintro e w1 ⟨rfl, q, rfl⟩))
  repeat
    refine wp_region_gw_tail 13 (by kernel_rfl) (by kernel_rfl) ?_
    simp only [List.take_succ_cons, List.take_zero, List.drop_succ_cons, List.drop_zero]
    repeat (go_big_quiet_step ((first | (go_at_call 41; exact gw_call (rvsub_b _ _ _ _ _)))))
    refine wpQuiet_nil ?_
    intro w1 hw1
    obtain ⟨q, rfl⟩ := hw1
    go_wp2_with (first | (go_at_call 41; refine Calls.mono (gw_at (rvsub_b _ _ _ _ _)) ?_; rintro e w1 ⟨rfl, q, rfl⟩))
  exact bodyPost_ret (v := .tuple #[.agg #[.int .i64 (sub xn xk), .int .i64 (sub yn yk)], .bool true]) (by simp [results, Tryz.results90, go_sem]) rfl ⟨rfl, bBel⟩

theorem rnor_b (A : Option Addr) (cap : Nat) (ps : List (Int × Int)) (i : Int) (hl : ps.length ≤ 4611686018427387904) (w : World) (ha : Pts w A ps) : Calls Tryz.prog 52 #[.slice A ps.length cap, .int .i64 i] w fun e w' => e = .returned (.agg #[.int .i64 (eNor ps i).1, .int .i64 (eNor ps i).2]) ∧ Below w.heap.size w w' := by
  unfold eNor
  by_cases h : eOK ps i
  · rw [if_pos h]
    obtain ⟨k, rfl⟩ : ∃ k : Nat, i = (k : Int) := ⟨i.toNat, by unfold eOK at h; omega⟩
    have cE := fun w' h' => redge1_b A cap ps k h hl w' h'
    rw [show ((k : Nat) : Int).toNat = k from rfl]
    have cN := fun w' => rvnorm_b (eY ps k) (-eX ps k) w'
    have b1 : -536870911 ≤ eX ps k := sat_ge _
    have b2 : eX ps k ≤ 536870911 := sat_le _
    generalize eX ps k = x at *
    generalize eY ps k = y at *
    generalize unit y (vlen y (-x)) = u at *
    generalize unit (-x) (vlen y (-x)) = v at *
    clear h
    go_enter Tryz.func52, Tryz.ntmps52
    go_wp2_with (first | (go_at_call 90; refine Calls.mono (gw_at (cE _ (Pts.to ha bBel))) ?_; rintro e w1 ⟨rfl, q, rfl⟩) | (go_at_call 45; refine Calls.mono (gw_at (cN _)) ?_; rintro e w1 ⟨rfl, q, rfl⟩))
    exact bodyPost_ret (v := .agg #[.int .i64 u, .int .i64 v]) (by simp [results, Tryz.results52, go_sem]; try (first | with_reducible rfl | exact ⟨rfl, rfl⟩ | exact ⟨rfl, rfl, rfl⟩ | exact ⟨rfl, rfl, rfl, rfl⟩ | exact ⟨rfl, rfl, rfl, rfl, rfl⟩ | exact ⟨rfl, rfl, rfl, rfl, rfl, rfl⟩ | rfl)) rfl ⟨rfl, bBel⟩
  · rw [if_neg h]
    have cE := fun w' => redge0_b A cap ps i h w'
    clear h
    dsimp only
    go_enter Tryz.func52, Tryz.ntmps52
    go_wp2_with (go_at_call 90; refine Calls.mono (gw_at (cE _)) ?_; rintro e w1 ⟨rfl, q, rfl⟩)
    exact bodyPost_ret (v := .agg #[.int .i64 0, .int .i64 0]) (by simp [results, Tryz.results52, go_sem]; try (first | with_reducible rfl | exact ⟨rfl, rfl⟩ | exact ⟨rfl, rfl, rfl⟩ | exact ⟨rfl, rfl, rfl, rfl⟩ | exact ⟨rfl, rfl, rfl, rfl, rfl⟩ | exact ⟨rfl, rfl, rfl, rfl, rfl, rfl⟩ | rfl)) rfl ⟨rfl, bBel⟩

end Go.Proofs.YtpdhfhcfjdnlpaaGreat
