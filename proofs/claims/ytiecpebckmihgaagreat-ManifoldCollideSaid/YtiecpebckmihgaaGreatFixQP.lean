/- Contracts of package sat. -/
import Derived.Test.YtiecpebckmihgaaGreatFixQA
set_option linter.unusedVariables false
namespace Go.Proofs.YtiecpebckmihgaaGreat
open Go.RowKit Fx

def sepq (ps : List Pt) (i : Nat) (qs : List Pt) : Nat → Int
  | 0 => 536870911
  | k + 1 => min (sepq ps i qs k) (sepD ps i qs k)
theorem sepq_sepm (ps : List Pt) (i : Nat) (qs : List Pt) : ∀ k, sepq ps i qs (k + 1) = sepm ps i qs k
  | 0 => by
    have h : sepD ps i qs 0 ≤ 536870911 := sat_le _
    show min 536870911 (sepD ps i qs 0) = sepD ps i qs 0
    omega
  | k + 1 => by
    show min (sepq ps i qs (k + 1)) (sepD ps i qs (k + 1)) = min (sepm ps i qs k) (sepD ps i qs (k + 1))
    rw [sepq_sepm ps i qs k]
theorem sepq_sep (ps : List Pt) (i : Nat) {qs : List Pt} (h : 0 < qs.length) : sepq ps i qs qs.length = sep ps i qs := by
  have := sepq_sepm ps i qs (qs.length - 1)
  rw [show qs.length - 1 + 1 = qs.length from by omega] at this
  exact this
def msq (ps qs : List Pt) : Nat → Int × Int
  | 0 => (-1, 0)
  | k + 1 => if (msq ps qs k).1 = -1 ∨ (msq ps qs k).2 < sep ps k qs then ((k : Int), sep ps k qs) else msq ps qs k
theorem msq_msf (ps qs : List Pt) : ∀ k, msq ps qs (k + 1) = msf ps qs k
  | 0 => if_pos (.inl rfl)
  | k + 1 => by
    obtain ⟨j, hj, e, -, -⟩ := msf_spec ps qs k
    show (if (msq ps qs (k + 1)).1 = -1 ∨ (msq ps qs (k + 1)).2 < sep ps (k + 1) qs then (((k + 1 : Nat) : Int), sep ps (k + 1) qs) else msq ps qs (k + 1)) = (if (msf ps qs k).2 < sep ps (k + 1) qs then (((k + 1 : Nat) : Int), sep ps (k + 1) qs) else msf ps qs k)
    rw [msq_msf ps qs k]
    have e1 : ¬ (msf ps qs k).1 = -1 := by rw [e]; show ¬ (j : Int) = -1; omega
    by_cases c : (msf ps qs k).2 < sep ps (k + 1) qs
    · rw [if_pos c, if_pos (.inr c)]
    · rw [if_neg c, if_neg (by rintro (h | h); exact e1 h; exact c h)]
def incq (ps : List Pt) (x y : Int) : Nat → Int × Int
  | 0 => (-1, 0)
  | k + 1 => if (incq ps x y k).1 = -1 ∨ incD ps x y k < (incq ps x y k).2 then ((k : Int), incD ps x y k) else incq ps x y k
theorem incf_nn (ps : List Pt) (x y : Int) : ∀ k, 0 ≤ (incf ps x y k).1
  | 0 => by show (0 : Int) ≤ 0; omega
  | k + 1 => by
    show 0 ≤ (if incD ps x y (k + 1) < (incf ps x y k).2 then (((k + 1 : Nat) : Int), incD ps x y (k + 1)) else incf ps x y k).1
    split
    · show (0 : Int) ≤ ((k + 1 : Nat) : Int); omega
    · exact incf_nn ps x y k
theorem incq_incf (ps : List Pt) (x y : Int) : ∀ k, incq ps x y (k + 1) = incf ps x y k
  | 0 => if_pos (.inl rfl)
  | k + 1 => by
    show (if (incq ps x y (k + 1)).1 = -1 ∨ incD ps x y (k + 1) < (incq ps x y (k + 1)).2 then (((k + 1 : Nat) : Int), incD ps x y (k + 1)) else incq ps x y (k + 1)) = (if incD ps x y (k + 1) < (incf ps x y k).2 then (((k + 1 : Nat) : Int), incD ps x y (k + 1)) else incf ps x y k)
    rw [incq_incf ps x y k]
    have e1 : ¬ (incf ps x y k).1 = -1 := by have := incf_nn ps x y k; omega
    by_cases c : incD ps x y (k + 1) < (incf ps x y k).2
    · rw [if_pos c, if_pos (.inr c)]
    · rw [if_neg c, if_neg (by rintro (h | h); exact e1 h; exact c h)]

theorem yedge0_b (A : Option Addr) (cap : Nat) (ps : List (Int × Int)) (i : Int) (h : ¬ eOK ps i) (w : World) : Calls Tryz.prog 127 #[.slice A ps.length cap, .int .i64 i] w fun e w' => e = .returned (.agg #[.int .i64 0, .int .i64 0]) ∧ Below w.heap.size w w' := by
  have hc : (ps.length : Int) < 2 ∨ (¬ (ps.length : Int) < 2 ∧ i < 0) ∨ (¬ (ps.length : Int) < 2 ∧ ¬ i < 0 ∧ (ps.length : Int) ≤ i) := by unfold eOK at h; omega
  clear h
  rcases hc with c | ⟨c, d⟩ | ⟨c, d, f⟩
  all_goals
    go_enter Tryz.func127, Tryz.ntmps127
    go_wp2_with fail
    exact bodyPost_ret (v := .agg #[.int .i64 0, .int .i64 0]) (by simp [results, Tryz.results127, go_sem]; try (first | with_reducible rfl | exact ⟨rfl, rfl⟩ | exact ⟨rfl, rfl, rfl⟩ | exact ⟨rfl, rfl, rfl, rfl⟩ | exact ⟨rfl, rfl, rfl, rfl, rfl⟩ | exact ⟨rfl, rfl, rfl, rfl, rfl, rfl⟩ | rfl)) rfl ⟨rfl, bBel⟩

set_option maxHeartbeats 1000000 in
theorem yedge1_b (A : Option Addr) (cap : Nat) (ps : List (Int × Int)) (k : Nat) (h : eOK ps k) (hl : ps.length ≤ 4611686018427387904) (w : World) (ha : Pts w A ps) : Calls Tryz.prog 127 #[.slice A ps.length cap, .int .i64 (k : Int)] w fun e w' => e = .returned (.agg #[.int .i64 (eX ps k), .int .i64 (eY ps k)]) ∧ Below w.heap.size w w' := by
  obtain ⟨h2, h0, h1⟩ := h
  have hlt : k < ps.length := by omega
  have n2 : ¬ (ps.length : Int) < 2 := by omega
  have i0 : ¬ (k : Int) < 0 := by omega
  have i1 : ¬ (ps.length : Int) ≤ (k : Int) := by omega
  have i2 : (k : Int) < (ps.length : Int) := by omega
  have hmod := Nat.mod_lt (k + 1) (show 0 < ps.length by omega)
  have hm : ((k : Int) + 1).tmod (ps.length : Int) = (((k + 1) % ps.length : Nat) : Int) := by
    rw [show (k : Int) + 1 = ((k + 1 : Nat) : Int) from by omega]; first | exact (Int.ofNat_tmod _ _).symm | exact (Int.natCast_tmod _ _).symm | (rw [Int.tmod_eq_emod_of_nonneg (by omega)]; exact (Int.natCast_emod _ _).symm)
  have hnz : ((ps.length : Int) == 0) = false := by rw [beq_eq_false_iff_ne]; omega
  obtain ⟨b, off, rfl, hc⟩ := pts_open0 ha (by omega)
  unfold eX eY
  rw [← hp_mod ps (k + 1)]
  generalize (k + 1) % ps.length = nx at *
  rw [hp_get hlt, hp_get hmod]
  have x0 : (0 : Int) ≤ (nx : Int) := by omega
  have x1 : (nx : Int) < (ps.length : Int) := by omega
  have k0 : (0 : Int) ≤ (k : Int) := by omega
  obtain ⟨d0, d1⟩ := hc k hlt
  obtain ⟨f0, f1⟩ := hc nx hmod
  have ob := older_of_cell d0
  have kmax : (k : Int) + 1 ≤ (ps.length : Int) := by omega
  clear hc ha h0 h1 h2
  generalize ps[k].1 = xk at *
  generalize ps[k].2 = yk at *
  generalize ps[nx].1 = xn at *
  generalize ps[nx].2 = yn at *
  go_enter Tryz.func127, Tryz.ntmps127
  go_wp2_with (first | (go_at_call 36; refine Calls.mono (gw_at (vsub_b _ _ _ _ _)) ?_; rintro e w1 ⟨rfl, q, rfl⟩))
  repeat
    refine wp_region_gw_tail 13 (by kernel_rfl) (by kernel_rfl) ?_
    simp only [List.take_succ_cons, List.take_zero, List.drop_succ_cons, List.drop_zero]
    repeat (go_big_quiet_step ((first | (go_at_call 36; exact gw_call (vsub_b _ _ _ _ _)))))
    refine wpQuiet_nil ?_
    intro w1 hw1
    obtain ⟨q, rfl⟩ := hw1
    go_wp2_with (first | (go_at_call 36; refine Calls.mono (gw_at (vsub_b _ _ _ _ _)) ?_; rintro e w1 ⟨rfl, q, rfl⟩))
  exact bodyPost_ret (v := .agg #[.int .i64 (sub xn xk), .int .i64 (sub yn yk)]) (by simp [results, Tryz.results127, go_sem]; try (first | with_reducible rfl | exact ⟨rfl, rfl⟩ | exact ⟨rfl, rfl, rfl⟩ | exact ⟨rfl, rfl, rfl, rfl⟩ | exact ⟨rfl, rfl, rfl, rfl, rfl⟩ | exact ⟨rfl, rfl, rfl, rfl, rfl, rfl⟩ | rfl)) rfl ⟨rfl, bBel⟩

theorem ydir_b (A : Option Addr) (cap : Nat) (ps : List (Int × Int)) (i : Int) (hl : ps.length ≤ 4611686018427387904) (w : World) (ha : Pts w A ps) : Calls Tryz.prog 151 #[.slice A ps.length cap, .int .i64 i] w fun e w' => e = .returned (.agg #[.int .i64 (eDir ps i).1, .int .i64 (eDir ps i).2]) ∧ Below w.heap.size w w' := by
  unfold eDir
  by_cases h : eOK ps i
  · rw [if_pos h]
    obtain ⟨k, rfl⟩ : ∃ k : Nat, i = (k : Int) := ⟨i.toNat, by unfold eOK at h; omega⟩
    have cE := fun w' h' => yedge1_b A cap ps k h hl w' h'
    rw [show ((k : Nat) : Int).toNat = k from rfl]
    have cN := fun w' => vnorm_b (eX ps k) (eY ps k) w'
    generalize eX ps k = x at *
    generalize eY ps k = y at *
    generalize unit x (vlen x y) = u at *
    generalize unit y (vlen x y) = v at *
    clear h
    go_enter Tryz.func151, Tryz.ntmps151
    go_wp2_with (first | (go_at_call 127; refine Calls.mono (gw_at (cE _ (Pts.to ha bBel))) ?_; rintro e w1 ⟨rfl, q, rfl⟩) | (go_at_call 122; refine Calls.mono (gw_at (cN _)) ?_; rintro e w1 ⟨rfl, q, rfl⟩))
    exact bodyPost_ret (v := .agg #[.int .i64 u, .int .i64 v]) (by simp [results, Tryz.results151, go_sem]; try (first | with_reducible rfl | exact ⟨rfl, rfl⟩ | exact ⟨rfl, rfl, rfl⟩ | exact ⟨rfl, rfl, rfl, rfl⟩ | exact ⟨rfl, rfl, rfl, rfl, rfl⟩ | exact ⟨rfl, rfl, rfl, rfl, rfl, rfl⟩ | rfl)) rfl ⟨rfl, bBel⟩
  · rw [if_neg h]
    have cE := fun w' => yedge0_b A cap ps i h w'
    have cN := fun w' => vnorm0_b 0 0 (by decide +kernel) w'
    clear h
    dsimp only
    go_enter Tryz.func151, Tryz.ntmps151
    go_wp2_with (first | (go_at_call 127; refine Calls.mono (gw_at (cE _)) ?_; rintro e w1 ⟨rfl, q, rfl⟩) | (go_at_call 122; refine Calls.mono (gw_at (cN _)) ?_; rintro e w1 ⟨rfl, q, rfl⟩))
    exact bodyPost_ret (v := .agg #[.int .i64 0, .int .i64 0]) (by simp [results, Tryz.results151, go_sem]; try (first | with_reducible rfl | exact ⟨rfl, rfl⟩ | exact ⟨rfl, rfl, rfl⟩ | exact ⟨rfl, rfl, rfl, rfl⟩ | exact ⟨rfl, rfl, rfl, rfl, rfl⟩ | exact ⟨rfl, rfl, rfl, rfl, rfl, rfl⟩ | rfl)) rfl ⟨rfl, bBel⟩

theorem ynor_b (A : Option Addr) (cap : Nat) (ps : List (Int × Int)) (i : Int) (hl : ps.length ≤ 4611686018427387904) (w : World) (ha : Pts w A ps) : Calls Tryz.prog 86 #[.slice A ps.length cap, .int .i64 i] w fun e w' => e = .returned (.agg #[.int .i64 (eNor ps i).1, .int .i64 (eNor ps i).2]) ∧ Below w.heap.size w w' := by
  unfold eNor
  by_cases h : eOK ps i
  · rw [if_pos h]
    obtain ⟨k, rfl⟩ : ∃ k : Nat, i = (k : Int) := ⟨i.toNat, by unfold eOK at h; omega⟩
    have cE := fun w' h' => yedge1_b A cap ps k h hl w' h'
    rw [show ((k : Nat) : Int).toNat = k from rfl]
    have cN := fun w' => vnorm_b (eY ps k) (-eX ps k) w'
    have b1 : -536870911 ≤ eX ps k := sat_ge _
    have b2 : eX ps k ≤ 536870911 := sat_le _
    generalize eX ps k = x at *
    generalize eY ps k = y at *
    generalize unit y (vlen y (-x)) = u at *
    generalize unit (-x) (vlen y (-x)) = v at *
    clear h
    go_enter Tryz.func86, Tryz.ntmps86
    go_wp2_with (first | (go_at_call 127; refine Calls.mono (gw_at (cE _ (Pts.to ha bBel))) ?_; rintro e w1 ⟨rfl, q, rfl⟩) | (go_at_call 122; refine Calls.mono (gw_at (cN _)) ?_; rintro e w1 ⟨rfl, q, rfl⟩))
    exact bodyPost_ret (v := .agg #[.int .i64 u, .int .i64 v]) (by simp [results, Tryz.results86, go_sem]; try (first | with_reducible rfl | exact ⟨rfl, rfl⟩ | exact ⟨rfl, rfl, rfl⟩ | exact ⟨rfl, rfl, rfl, rfl⟩ | exact ⟨rfl, rfl, rfl, rfl, rfl⟩ | exact ⟨rfl, rfl, rfl, rfl, rfl, rfl⟩ | rfl)) rfl ⟨rfl, bBel⟩
  · rw [if_neg h]
    have cE := fun w' => yedge0_b A cap ps i h w'
    have cN := fun w' => vnorm0_b 0 0 (by decide +kernel) w'
    clear h
    dsimp only
    go_enter Tryz.func86, Tryz.ntmps86
    go_wp2_with (first | (go_at_call 127; refine Calls.mono (gw_at (cE _)) ?_; rintro e w1 ⟨rfl, q, rfl⟩) | (go_at_call 122; refine Calls.mono (gw_at (cN _)) ?_; rintro e w1 ⟨rfl, q, rfl⟩))
    exact bodyPost_ret (v := .agg #[.int .i64 0, .int .i64 0]) (by simp [results, Tryz.results86, go_sem]; try (first | with_reducible rfl | exact ⟨rfl, rfl⟩ | exact ⟨rfl, rfl, rfl⟩ | exact ⟨rfl, rfl, rfl, rfl⟩ | exact ⟨rfl, rfl, rfl, rfl, rfl⟩ | exact ⟨rfl, rfl, rfl, rfl, rfl, rfl⟩ | rfl)) rfl ⟨rfl, bBel⟩

set_option maxHeartbeats 4000000 in
theorem ysep_b (A B_ : Option Addr) (ca cb : Nat) (ps qs : List (Int × Int)) (i : Nat) (hi : i < ps.length) (hq : 0 < qs.length) (hl : ps.length ≤ 4611686018427387904) (hm : qs.length ≤ 4611686018427387904) (w : World) (ha : Pts w A ps) (hb : Pts w B_ qs) : Calls Tryz.prog 126 #[.slice A ps.length ca, .int .i64 (i : Int), .slice B_ qs.length cb] w fun e w' => e = .returned (.int .i64 (sep ps i qs)) ∧ Below w.heap.size w w' := by
  have cN := fun w' h => ynor_b A ca ps (i : Int) hl w' h
  have hD : ∀ k, sepD ps i qs k = dot (eNor ps i).1 (eNor ps i).2 (sub (hp' qs k).1 (hp' ps i).1) (sub (hp' qs k).2 (hp' ps i).2) := fun k => rfl
  have hS : Hid (∀ k, sepq ps i qs (k + 1) = min (sepq ps i qs k) (sepD ps i qs k)) := fun _ => rfl
  have hE : Hid (sepq ps i qs qs.length = sep ps i qs) := sepq_sep ps i hq
  generalize sep ps i qs = R at *
  have j0 : (0 : Int) ≤ (i : Int) := by omega
  have j1 : (i : Int) < (ps.length : Int) := by omega
  generalize (eNor ps i).1 = n1 at *
  generalize (eNor ps i).2 = n2 at *
  go_enter Tryz.func126, Tryz.ntmps126
  go_wp2_with (go_at_call 86; refine Calls.mono (gw_at (cN _ (Pts.to ha bBel))) ?_; rintro e w1 ⟨rfl, q, rfl⟩)
  refine wp_named ?_
  intro W hW
  have hbW : Below w.heap.size w W := by rw [hW]; exact bBel
  have kN : blk W (w.heap.size + q.os.size) #[.int .i64 n1, .int .i64 n2] 27 := by rw [hW]; first | exact bBkn | exact (by apply blk_of; (repeat (first  | with_reducible apply blk_drew | with_reducible apply blk_gw | with_reducible apply blk_alloc | with_reducible apply blk_set | ((with_reducible apply blk_other); focus omega))); (first | rfl | simp))
  clear hW cN
  generalize w.heap.size + q.os.size = B at *
  have hA : Pts W A ps := Pts.to ha hbW
  have hB : Pts W B_ qs := Pts.to hb hbW
  obtain ⟨b, off, rfl, hc⟩ := pts_open hA (by omega)
  obtain ⟨b', off', rfl, hc'⟩ := pts_open hB (by omega)
  have hcI := fun p => hc p i hi
  rw [hp_get hi] at hD
  clear hc
  generalize ps[i].1 = ax at *
  generalize ps[i].2 = ay at *
  have hszW := hbW.size
  go_loopw [8, 16] (fun s k wr => ∃ m : Nat, m ≤ qs.length ∧ s = .int .i64 (sepq ps i qs m) ∧ k = .int .i64 (m : Int) ∧ ∃ p, wr = gw W p)
    (fun _ k _ => (qs.length - intOf k).toNat)
  case atStart => exact ⟨0, by omega, rfl, rfl, ⟨⟨W.drawn, #[]⟩, (gw_zero W).symm⟩⟩
  case round =>
    obtain ⟨m, hm2, rfl, rfl, p, rfl⟩ := hrel
    by_cases hlt : m < qs.length
    · have i0 : (0 : Int) ≤ (m : Int) := by omega
      have i1 : (m : Int) < (qs.length : Int) := by omega
      obtain ⟨c0, c1⟩ := hc' p m hlt
      obtain ⟨e0, e1⟩ := hcI p
      have oc := older_of_cell c0
      have oe := older_of_cell e0
      have kN2 := blk_gw (p := p) kN
      have okN2 := blk_older kN2
      have ckN2_0 : _ = some _ := blk_cell kN2 0
      have ckN2_1 : _ = some _ := blk_cell kN2 1
      have fkN2_0 := blk_free kN2 0
      have fkN2_1 := blk_free kN2 1
      have hDm := hD m
      rw [hp_get hlt] at hDm
      have hSm : Hid (sepq ps i qs (m + 1) = min (sepq ps i qs m) (sepD ps i qs m)) := hS.out m
      generalize sepq ps i qs m = S at *
      generalize qs[m].1 = qx at *
      generalize qs[m].2 = qy at *
      rw [hDm] at hSm
      clear hDm hD hS hE hc' hcI
      go_wp2_with (first | (go_at_call 86; refine Calls.mono (gw_at (cN _ (Pts.to hp bBel))) ?_; rintro e w1 ⟨rfl, q, rfl⟩) | (go_at_call 36; refine Calls.mono (gw_at (vsub_b _ _ _ _ _)) ?_; rintro e w1 ⟨rfl, q, rfl⟩) | (go_at_call 130; refine Calls.mono (gw_at (dot_b _ _ _ _ _)) ?_; rintro e w1 ⟨rfl, q, rfl⟩))
      refine wp_region_gw (by kernel_rfl) (by kernel_rfl) ?_
      repeat (go_big_quiet_step ((first | (go_at_call 86; exact gw_call (cN _ (Pts.to hp bBel))) | (go_at_call 36; exact gw_call (vsub_b _ _ _ _ _)) | (go_at_call 130; exact gw_call (dot_b _ _ _ _ _)))))
      refine wpQuiet_nil ?_
      intro w1 hw1
      obtain ⟨q, rfl⟩ := hw1
      go_wp2_with fail
      exact ⟨⟨m + 1, by omega, by rw [hSm.out], by go_num, gw_of_below bBel⟩, by (try go_num); simp [intOf]; (try omega)⟩
    · obtain rfl : m = qs.length := by omega
      have i1 : ¬ (qs.length : Int) < (qs.length : Int) := by omega
      rw [hE.out]
      clear hD hS hE
      go_wp2_with fail
      go_ret
      exact ⟨rfl, Below.trans hbW ((below_gw W p).mono hbW.size)⟩

set_option maxHeartbeats 4000000 in
theorem ymsep_b (A B_ : Option Addr) (ca cb : Nat) (ps qs : List (Int × Int)) (hl : ps.length ≤ 4611686018427387904) (hm : qs.length ≤ 4611686018427387904) (w : World) (ha : Pts w A ps) (hb : Pts w B_ qs) : Calls Tryz.prog 85 #[.slice A ps.length ca, .slice B_ qs.length cb] w fun e w' => e = .returned (.tuple #[.int .i64 (msep ps qs).1, .int .i64 (msep ps qs).2]) ∧ Below w.heap.size w w' := by
  by_cases hn : ps.length < 2 ∨ qs.length = 0
  focus
    rw [msep_none hn]
    dsimp only
    rcases (by omega : (ps.length : Int) < 2 ∨ (¬ (ps.length : Int) < 2 ∧ (qs.length : Int) = 0)) with c | ⟨c, d⟩
    · clear hn
      go_enter Tryz.func85, Tryz.ntmps85
      go_wp2_with fail
      exact bodyPost_ret (v := .tuple #[.int .i64 (-1), .int .i64 0]) (by simp [results, Tryz.results85, go_sem]) rfl ⟨rfl, bBel⟩
    · have d' : ((qs.length : Int) == 0) = true := by rw [beq_iff_eq]; exact d
      clear hn d
      go_enter Tryz.func85, Tryz.ntmps85
      go_wp2_with fail
      exact bodyPost_ret (v := .tuple #[.int .i64 (-1), .int .i64 0]) (by simp [results, Tryz.results85, go_sem]) rfl ⟨rfl, bBel⟩
  have n1 : ¬ (ps.length : Int) < 2 := by omega
  have n2 : ((qs.length : Int) == 0) = false := by rw [beq_eq_false_iff_ne]; omega
  have hQ : 0 < qs.length := by omega
  have hE : Hid (msq ps qs ps.length = msep ps qs) := by
    have := msq_msf ps qs (ps.length - 1)
    rw [show ps.length - 1 + 1 = ps.length from by omega] at this
    exact this.trans (if_neg hn).symm
  have hS : Hid (∀ k, msq ps qs (k + 1) = if (msq ps qs k).1 = -1 ∨ (msq ps qs k).2 < sep ps k qs then ((k : Int), sep ps k qs) else msq ps qs k) := fun _ => rfl
  have cS := fun (i : Nat) (hi : i < ps.length) w' h1 h2 => ysep_b A B_ ca cb ps qs i hi hQ hl hm w' h1 h2
  obtain ⟨⟨R1, R2⟩, hR⟩ : ∃ R, msep ps qs = R := ⟨_, rfl⟩
  rw [hR] at hE ⊢
  dsimp only
  clear hn hR
  go_enter Tryz.func85, Tryz.ntmps85
  go_wp2_with fail
  go_loopw [6, 7, 20] (fun s t k wr => ∃ m : Nat, m ≤ ps.length ∧ s = .int .i64 (msq ps qs m).1 ∧ t = .int .i64 (msq ps qs m).2 ∧ k = .int .i64 (m : Int) ∧ ∃ p, wr = gw w p)
    (fun _ _ k _ => (ps.length - intOf k).toNat)
  case atStart => exact ⟨0, by omega, rfl, rfl, rfl, ⟨⟨w.drawn, #[]⟩, (gw_zero w).symm⟩⟩
  case round =>
    obtain ⟨m, hm2, rfl, rfl, rfl, p, rfl⟩ := hrel
    by_cases hlt : m < ps.length
    · have i1 : (m : Int) < (ps.length : Int) := by omega
      have cM := cS m hlt
      have hSm := hS.out m
      clear cS
      generalize sep ps m qs = D at *
      generalize hF : msq ps qs m = F at *
      clear hF
      obtain ⟨F1, F2⟩ := F
      dsimp only at hSm
      by_cases c0 : F1 = -1
      · have hS2 : Hid (msq ps qs (m + 1) = ((m : Int), D)) := hSm.trans (if_pos (.inl c0))
        have b0 : (F1 == -1) = true := by rw [beq_iff_eq]; exact c0
        clear hSm hS hE c0
        go_wp2_with (go_at_call 126; refine Calls.mono (gw_at (cM _ (Pts.to ha bBel) (Pts.to hb bBel))) ?_; rintro e w1 ⟨rfl, q, rfl⟩)
        exact ⟨⟨m + 1, by omega, by rw [hS2.out], by rw [hS2.out], by go_num, gw_of_below bBel⟩, by (try go_num); simp [intOf]; (try omega)⟩
      · have b0 : (F1 == -1) = false := by rw [beq_eq_false_iff_ne]; exact c0
        by_cases c : F2 < D
        · have hS2 : Hid (msq ps qs (m + 1) = ((m : Int), D)) := hSm.trans (if_pos (.inr c))
          clear hSm hS hE c0
          go_wp2_with (go_at_call 126; refine Calls.mono (gw_at (cM _ (Pts.to ha bBel) (Pts.to hb bBel))) ?_; rintro e w1 ⟨rfl, q, rfl⟩)
          exact ⟨⟨m + 1, by omega, by rw [hS2.out], by rw [hS2.out], by go_num, gw_of_below bBel⟩, by (try go_num); simp [intOf]; (try omega)⟩
        · have hS2 : Hid (msq ps qs (m + 1) = (F1, F2)) := hSm.trans (if_neg (by rintro (h | h); exact c0 h; exact c h))
          clear hSm hS hE c0
          go_wp2_with (go_at_call 126; refine Calls.mono (gw_at (cM _ (Pts.to ha bBel) (Pts.to hb bBel))) ?_; rintro e w1 ⟨rfl, q, rfl⟩)
          exact ⟨⟨m + 1, by omega, by rw [hS2.out], by rw [hS2.out], by go_num, gw_of_below bBel⟩, by (try go_num); simp [intOf]; (try omega)⟩
    · obtain rfl : m = ps.length := by omega
      have i1 : ¬ (ps.length : Int) < (ps.length : Int) := by omega
      rw [hE.out]
      clear hS hE cS
      go_wp2_with fail
      exact bodyPost_ret (v := .tuple #[.int .i64 R1, .int .i64 R2]) (by simp [results, Tryz.results85, go_sem]) rfl ⟨rfl, bBel⟩

set_option maxHeartbeats 4000000 in
theorem yinc_b (A : Option Addr) (cap : Nat) (ps : List (Int × Int)) (x y : Int) (hl : ps.length ≤ 4611686018427387904) (w : World) (ha : Pts w A ps) : Calls Tryz.prog 128 #[.slice A ps.length cap, .agg #[.int .i64 x, .int .i64 y]] w fun e w' => e = .returned (.int .i64 (inc ps x y)) ∧ Below w.heap.size w w' := by
  by_cases hn : ps.length < 2
  focus
    rw [inc_none x y hn]
    have c : (ps.length : Int) < 2 := by omega
    clear hn
    go_enter Tryz.func128, Tryz.ntmps128
    go_wp2_with fail
    go_ret
    exact ⟨rfl, bBel⟩
  have n1 : ¬ (ps.length : Int) < 2 := by omega
  have hE : Hid ((incq ps x y ps.length).1 = inc ps x y) := by
    have := incq_incf ps x y (ps.length - 1)
    rw [show ps.length - 1 + 1 = ps.length from by omega] at this
    rw [this]
    exact (if_neg hn).symm
  have hS : Hid (∀ k, incq ps x y (k + 1) = if (incq ps x y k).1 = -1 ∨ incD ps x y k < (incq ps x y k).2 then ((k : Int), incD ps x y k) else incq ps x y k) := fun _ => rfl
  have cN := fun (i : Nat) w' h => ynor_b A cap ps (i : Int) hl w' h
  have hD : Hid (∀ i : Nat, incD ps x y i = dot (eNor ps i).1 (eNor ps i).2 x y) := fun _ => rfl
  generalize inc ps x y = R at *
  clear hn
  go_enter Tryz.func128, Tryz.ntmps128
  go_wp2_with fail
  refine wp_named ?_
  intro W hW
  have hbW : Below w.heap.size w W := by rw [hW]; exact bBel
  have kV : blk W w.heap.size #[.int .i64 x, .int .i64 y] 27 := by rw [hW]; first | exact bBkn | exact (by apply blk_of; (repeat (first  | with_reducible apply blk_drew | with_reducible apply blk_gw | with_reducible apply blk_alloc | with_reducible apply blk_set | ((with_reducible apply blk_other); focus omega))); (first | rfl | simp))
  clear hW
  have hA : Pts W A ps := Pts.to ha hbW
  have hszW := hbW.size
  go_loopw [5, 6, 14] (fun s t k wr => ∃ m : Nat, m ≤ ps.length ∧ s = .int .i64 (incq ps x y m).1 ∧ t = .int .i64 (incq ps x y m).2 ∧ k = .int .i64 (m : Int) ∧ ∃ p, wr = gw W p)
    (fun _ _ k _ => (ps.length - intOf k).toNat)
  case atStart => exact ⟨0, by omega, rfl, rfl, rfl, ⟨⟨W.drawn, #[]⟩, (gw_zero W).symm⟩⟩
  case round =>
    obtain ⟨m, hm2, rfl, rfl, rfl, p, rfl⟩ := hrel
    by_cases hlt : m < ps.length
    · have i1 : (m : Int) < (ps.length : Int) := by omega
      have cM := cN m
      have hDm := hD.out m
      have hSm := hS.out m
      have kV2 := blk_gw (p := p) kV
      have okV2 := blk_older kV2
      have ckV2_0 : _ = some _ := blk_cell kV2 0
      have ckV2_1 : _ = some _ := blk_cell kV2 1
      have fkV2_0 := blk_free kV2 0
      have fkV2_1 := blk_free kV2 1
      clear cN hD
      generalize (eNor ps (m : Int)).1 = a0 at *
      generalize (eNor ps (m : Int)).2 = b0 at *
      generalize incD ps x y m = D at *
      generalize hF : incq ps x y m = F at *
      clear hF
      obtain ⟨F1, F2⟩ := F
      dsimp only at hSm
      go_upto_region 7 with fail
      refine wp_region_gw (by kernel_rfl) (by kernel_rfl) ?_
      repeat (go_big_quiet_step (first | (go_at_call 86; exact gw_call (cM _ (Pts.to hA bBel))) | (go_at_call 130; exact gw_call (dot_b _ _ _ _ _))))
      refine wpQuiet_nil ?_
      intro w1 hw1
      obtain ⟨q2, rfl⟩ := hw1
      rw [← hDm]
      clear hDm cM
      by_cases c0 : F1 = -1
      · have hS2 : Hid (incq ps x y (m + 1) = ((m : Int), D)) := hSm.trans (if_pos (.inl c0))
        have b0 : (F1 == -1) = true := by rw [beq_iff_eq]; exact c0
        clear hSm hS hE c0
        go_wp2_with fail
        exact ⟨⟨m + 1, by omega, by rw [hS2.out], by rw [hS2.out], by go_num, gw_of_below bBel⟩, by (try go_num); simp [intOf]; (try omega)⟩
      · have b0 : (F1 == -1) = false := by rw [beq_eq_false_iff_ne]; exact c0
        by_cases c : D < F2
        · have hS2 : Hid (incq ps x y (m + 1) = ((m : Int), D)) := hSm.trans (if_pos (.inr c))
          clear hSm hS hE c0
          go_wp2_with fail
          exact ⟨⟨m + 1, by omega, by rw [hS2.out], by rw [hS2.out], by go_num, gw_of_below bBel⟩, by (try go_num); simp [intOf]; (try omega)⟩
        · have hS2 : Hid (incq ps x y (m + 1) = (F1, F2)) := hSm.trans (if_neg (by rintro (h | h); exact c0 h; exact c h))
          clear hSm hS hE c0
          go_wp2_with fail
          exact ⟨⟨m + 1, by omega, by rw [hS2.out], by rw [hS2.out], by go_num, gw_of_below bBel⟩, by (try go_num); simp [intOf]; (try omega)⟩
    · obtain rfl : m = ps.length := by omega
      have i1 : ¬ (ps.length : Int) < (ps.length : Int) := by omega
      rw [hE.out]
      clear hS hE cN hD
      go_wp2_with fail
      go_ret
      exact ⟨rfl, Below.trans hbW ((below_gw W p).mono hbW.size)⟩

end Go.Proofs.YtiecpebckmihgaaGreat
