/- Contracts of package sat. -/
import Derived.Test.YtpdhfhcfjdnlpaaGreatFixQA
set_option linter.unusedVariables false
namespace Go.Proofs.YtpdhfhcfjdnlpaaGreat
open Go.RowKit Fx

/-- The smallest of the first k, as the program keeps it: the largest number ahead of the first. -/
def sepq (ps : List Pt) (i : Nat) (qs : List Pt) : Nat → Int
  | 0 => 536870911
  | k + 1 => min (sepq ps i qs k) (sepD ps i qs k)
theorem sepq_sepm (ps : List Pt) (i : Nat) (qs : List Pt) : ∀ k, sepq ps i qs (k + 1) = sepm ps i qs k
  | 0 => by
    have h : sepD ps i qs 0 ≤ 536870911 := sat_le _
    show min 536870911 (sepD ps i qs 0) = sepD ps i qs 0
    omega
  | k + 1 => by
    show min (sepq ps i qs (k + 1)) (sepD ps i qs (k + 1)) = min (sepm ps i qs k) (sepD ps i qs (k + 1))
    rw [sepq_sepm ps i qs k]
theorem sepq_sep (ps : List Pt) (i : Nat) {qs : List Pt} (h : 0 < qs.length) : sepq ps i qs qs.length = sep ps i qs := by
  have := sepq_sepm ps i qs (qs.length - 1)
  rw [show qs.length - 1 + 1 = qs.length from by omega] at this
  exact this
/-- The best of the first k edges, as the program keeps it: edge -1 ahead of the first. -/
def msq (ps qs : List Pt) : Nat → Int × Int
  | 0 => (-1, 0)
  | k + 1 => if (msq ps qs k).1 = -1 ∨ (msq ps qs k).2 < sep ps k qs then ((k : Int), sep ps k qs) else msq ps qs k
theorem msq_msf (ps qs : List Pt) : ∀ k, msq ps qs (k + 1) = msf ps qs k
  | 0 => if_pos (.inl rfl)
  | k + 1 => by
    obtain ⟨j, hj, e, -, -⟩ := msf_spec ps qs k
    show (if (msq ps qs (k + 1)).1 = -1 ∨ (msq ps qs (k + 1)).2 < sep ps (k + 1) qs then (((k + 1 : Nat) : Int), sep ps (k + 1) qs) else msq ps qs (k + 1)) = (if (msf ps qs k).2 < sep ps (k + 1) qs then (((k + 1 : Nat) : Int), sep ps (k + 1) qs) else msf ps qs k)
    rw [msq_msf ps qs k]
    have e1 : ¬ (msf ps qs k).1 = -1 := by rw [e]; show ¬ (j : Int) = -1; omega
    by_cases c : (msf ps qs k).2 < sep ps (k + 1) qs
    · rw [if_pos c, if_pos (.inr c)]
    · rw [if_neg c, if_neg (by rintro (h | h); exact e1 h; exact c h)]
/-- The edge whose normal points the most against (x, y), of the first k. -/
def incq (ps : List Pt) (x y : Int) : Nat → Int × Int
  | 0 => (-1, 0)
  | k + 1 => if (incq ps x y k).1 = -1 ∨ incD ps x y k < (incq ps x y k).2 then ((k : Int), incD ps x y k) else incq ps x y k
theorem incf_nn (ps : List Pt) (x y : Int) : ∀ k, 0 ≤ (incf ps x y k).1
  | 0 => by show (0 : Int) ≤ 0; omega
  | k + 1 => by
    show 0 ≤ (if incD ps x y (k + 1) < (incf ps x y k).2 then (((k + 1 : Nat) : Int), incD ps x y (k + 1)) else incf ps x y k).1
    split
    · show (0 : Int) ≤ ((k + 1 : Nat) : Int); omega
    · exact incf_nn ps x y k
theorem incq_incf (ps : List Pt) (x y : Int) : ∀ k, incq ps x y (k + 1) = incf ps x y k
  | 0 => if_pos (.inl rfl)
  | k + 1 => by
    show (if (incq ps x y (k + 1)).1 = -1 ∨ incD ps x y (k + 1) < (incq ps x y (k + 1)).2 then (((k + 1 : Nat) : Int), incD ps x y (k + 1)) else incq ps x y (k + 1)) = (if incD ps x y (k + 1) < (incf ps x y k).2 then (((k + 1 : Nat) : Int), incD ps x y (k + 1)) else incf ps x y k)
    rw [incq_incf ps x y k]
    have e1 : ¬ (incf ps x y k).1 = -1 := by have := incf_nn ps x y k; omega
    by_cases c : incD ps x y (k + 1) < (incf ps x y k).2
    · rw [if_pos c, if_pos (.inr c)]
    · rw [if_neg c, if_neg (by rintro (h | h); exact e1 h; exact c h)]

theorem yedge0_b (A : Option Addr) (cap : Nat) (ps : List (Int × Int)) (i : Int) (h : ¬ eOK ps i) (w : World) : Calls Tryz.prog 74 #[.slice A ps.length cap, .int .i64 i] w fun e w' => e = .returned (.agg #[.int .i64 0, .int .i64 0]) ∧ Below w.heap.size w w' := by
  have hc : (ps.length : Int) < 2 ∨ (¬ (ps.length : Int) < 2 ∧ i < 0) ∨ (¬ (ps.length : Int) < 2 ∧ ¬ i < 0 ∧ (ps.length : Int) ≤ i) := by unfold eOK at h; omega
  clear h
  rcases hc with c | ⟨c, d⟩ | ⟨c, d, f⟩
  all_goals
    go_enter Tryz.func74, Tryz.ntmps74
    go_wp2_with fail
    exact bodyPost_ret (v := .agg #[.int .i64 0, .int .i64 0]) (by simp [results, Tryz.results74, go_sem]; try (first | with_reducible rfl | exact ⟨rfl, rfl⟩ | exact ⟨rfl, rfl, rfl⟩ | exact ⟨rfl, rfl, rfl, rfl⟩ | exact ⟨rfl, rfl, rfl, rfl, rfl⟩ | exact ⟨rfl, rfl, rfl, rfl, rfl, rfl⟩ | rfl)) rfl ⟨rfl, bBel⟩

set_option maxHeartbeats 1000000 in
theorem yedge1_b (A : Option Addr) (cap : Nat) (ps : List (Int × Int)) (k : Nat) (h : eOK ps k) (hl : ps.length ≤ 4611686018427387904) (w : World) (ha : Pts w A ps) : Calls Tryz.prog 74 #[.slice A ps.length cap, .int .i64 (k : Int)] w fun e w' => e = .returned (.agg #[.int .i64 (eX ps k), .int .i64 (eY ps k)]) ∧ Below w.heap.size w w' := by
  obtain ⟨h2, h0, h1⟩ := h
  have hlt : k < ps.length := by omega
  have n2 : ¬ (ps.length : Int) < 2 := by omega
  have i0 : ¬ (k : Int) < 0 := by omega
  have i1 : ¬ (ps.length : Int) ≤ (k : Int) := by omega
  have i2 : (k : Int) < (ps.length : Int) := by omega
  have hmod := Nat.mod_lt (k + 1) (show 0 < ps.length by omega)
  have hm : ((k : Int) + 1).tmod (ps.length : Int) = (((k + 1) % ps.length : Nat) : Int) := by
    rw [show (k : Int) + 1 = ((k + 1 : Nat) : Int) from by omega]; first | exact (Int.ofNat_tmod _ _).symm | exact (Int.natCast_tmod _ _).symm | (rw [Int.tmod_eq_emod_of_nonneg (by omega)]; exact (Int.natCast_emod _ _).symm)
  have hnz : ((ps.length : Int) == 0) = false := by rw [beq_eq_false_iff_ne]; omega
  obtain ⟨b, off, rfl, hc⟩ := pts_open0 ha (by omega)
  unfold eX eY
  rw [← hp_mod ps (k + 1)]
  generalize (k + 1) % ps.length = nx at *
  rw [hp_get hlt, hp_get hmod]
  have x0 : (0 : Int) ≤ (nx : Int) := by omega
  have x1 : (nx : Int) < (ps.length : Int) := by omega
  have k0 : (0 : Int) ≤ (k : Int) := by omega
  obtain ⟨d0, d1⟩ := hc k hlt
  obtain ⟨f0, f1⟩ := hc nx hmod
  have ob := older_of_cell d0
  have kmax : (k : Int) + 1 ≤ (ps.length : Int) := by omega
  clear hc ha h0 h1 h2
  generalize ps[k].1 = xk at *
  generalize ps[k].2 = yk at *
  generalize ps[nx].1 = xn at *
  generalize ps[nx].2 = yn at *
  go_enter Tryz.func74, Tryz.ntmps74
  go_wp2_with (first | (go_at_call 20; refine Calls.mono (gw_at (vsub_b _ _ _ _ _)) ?_; rintro e w1 ⟨rfl, q, rfl⟩))
  repeat
    refine wp_region_gw_tail 13 (by kernel_rfl) (by kernel_rfl) ?_
    simp only [List.take_succ_cons, List.take_zero, List.drop_succ_cons, List.drop_zero]
    repeat (go_big_quiet_step ((first | (go_at_call 20; exact gw_call (vsub_b _ _ _ _ _)))))
    refine wpQuiet_nil ?_
    intro w1 hw1
    obtain ⟨q, rfl⟩ := hw1
    go_wp2_with (first | (go_at_call 20; refine Calls.mono (gw_at (vsub_b _ _ _ _ _)) ?_; rintro e w1 ⟨rfl, q, rfl⟩))
  exact bodyPost_ret (v := .agg #[.int .i64 (sub xn xk), .int .i64 (sub yn yk)]) (by simp [results, Tryz.results74, go_sem]; try (first | with_reducible rfl | exact ⟨rfl, rfl⟩ | exact ⟨rfl, rfl, rfl⟩ | exact ⟨rfl, rfl, rfl, rfl⟩ | exact ⟨rfl, rfl, rfl, rfl, rfl⟩ | exact ⟨rfl, rfl, rfl, rfl, rfl, rfl⟩ | rfl)) rfl ⟨rfl, bBel⟩

theorem ynor_b (A : Option Addr) (cap : Nat) (ps : List (Int × Int)) (i : Int) (hl : ps.length ≤ 4611686018427387904) (w : World) (ha : Pts w A ps) : Calls Tryz.prog 36 #[.slice A ps.length cap, .int .i64 i] w fun e w' => e = .returned (.agg #[.int .i64 (eNor ps i).1, .int .i64 (eNor ps i).2]) ∧ Below w.heap.size w w' := by
  unfold eNor
  by_cases h : eOK ps i
  · rw [if_pos h]
    obtain ⟨k, rfl⟩ : ∃ k : Nat, i = (k : Int) := ⟨i.toNat, by unfold eOK at h; omega⟩
    have cE := fun w' h' => yedge1_b A cap ps k h hl w' h'
    rw [show ((k : Nat) : Int).toNat = k from rfl]
    have cN := fun w' => vnorm_b (eY ps k) (-eX ps k) w'
    have b1 : -536870911 ≤ eX ps k := sat_ge _
    have b2 : eX ps k ≤ 536870911 := sat_le _
    generalize eX ps k = x at *
    generalize eY ps k = y at *
    generalize unit y (vlen y (-x)) = u at *
    generalize unit (-x) (vlen y (-x)) = v at *
    clear h
    go_enter Tryz.func36, Tryz.ntmps36
    go_wp2_with (first | (go_at_call 74; refine Calls.mono (gw_at (cE _ (Pts.to ha bBel))) ?_; rintro e w1 ⟨rfl, q, rfl⟩) | (go_at_call 23; refine Calls.mono (gw_at (cN _)) ?_; rintro e w1 ⟨rfl, q, rfl⟩))
    exact bodyPost_ret (v := .agg #[.int .i64 u, .int .i64 v]) (by simp [results, Tryz.results36, go_sem]; try (first | with_reducible rfl | exact ⟨rfl, rfl⟩ | exact ⟨rfl, rfl, rfl⟩ | exact ⟨rfl, rfl, rfl, rfl⟩ | exact ⟨rfl, rfl, rfl, rfl, rfl⟩ | exact ⟨rfl, rfl, rfl, rfl, rfl, rfl⟩ | rfl)) rfl ⟨rfl, bBel⟩
  · rw [if_neg h]
    have cE := fun w' => yedge0_b A cap ps i h w'
    have cN := fun w' => vnorm0_b 0 0 (by decide +kernel) w'
    clear h
    dsimp only
    go_enter Tryz.func36, Tryz.ntmps36
    go_wp2_with (first | (go_at_call 74; refine Calls.mono (gw_at (cE _)) ?_; rintro e w1 ⟨rfl, q, rfl⟩) | (go_at_call 23; refine Calls.mono (gw_at (cN _)) ?_; rintro e w1 ⟨rfl, q, rfl⟩))
    exact bodyPost_ret (v := .agg #[.int .i64 0, .int .i64 0]) (by simp [results, Tryz.results36, go_sem]; try (first | with_reducible rfl | exact ⟨rfl, rfl⟩ | exact ⟨rfl, rfl, rfl⟩ | exact ⟨rfl, rfl, rfl, rfl⟩ | exact ⟨rfl, rfl, rfl, rfl, rfl⟩ | exact ⟨rfl, rfl, rfl, rfl, rfl, rfl⟩ | rfl)) rfl ⟨rfl, bBel⟩

end Go.Proofs.YtpdhfhcfjdnlpaaGreat
