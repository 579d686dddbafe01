/- Contracts of package format: ParseInt, parseUnits, ParseFixed. -/
import Derived.Test.YtdlnidefjdjocaaDoorFixYB
import Derived.Test.YtdlnidefjdjocaaDoorFixFW
set_option linter.unusedVariables false
namespace Go.Proofs.YtdlnidefjdjocaaDoor
open Go.RowKit Fm

theorem dc_in (bs : List Int) : 0 ≤ dcM bs ∧ dcM bs ≤ 4611686018427387905 := by
  unfold dcM; split
  · exact cap_bound _
  · omega
theorem prs_dc {bs : List Int} {lim : Nat} (hl : lim ≤ 4611686018427387904) (h : isInt bs = true) : (if (lim : Int) < dcM bs then 0 else if dcN bs = true then -dcM bs else dcM bs) = (prs lim bs).1 ∧ (if (lim : Int) < dcM bs then 6 else 0) = (prs lim bs).2 := by
  have e1 : dcM bs = cap (val (body bs)) := by simp [dcM, h]
  have e2 : dcN bs = decide (bs.head? = some 45) := by simp [dcN, h]
  have hb := cap_big (val (body bs)) lim hl
  rw [e1, e2]
  unfold prs
  rw [if_pos h, sval_abs]
  by_cases hv : lim < val (body bs)
  · rw [if_pos (hb.2 hv), if_pos (hb.2 hv), if_pos hv]; exact ⟨rfl, rfl⟩
  · rw [if_neg (fun e => hv (hb.1 e)), if_neg (fun e => hv (hb.1 e)), if_neg hv, cap_small hl hv]
    refine ⟨?_, rfl⟩
    unfold sval
    by_cases hm : bs.head? = some 45
    · rw [if_pos (decide_eq_true hm), if_pos hm]
    · rw [if_neg (by simp [hm]), if_neg hm]
theorem zero_dc {bs : List Int} (h : isInt bs = true) : dcM bs = 0 ↔ bs = [48] := by
  have e1 : dcM bs = cap (val (body bs)) := by simp [dcM, h]
  have e2 := sval_abs bs
  have e3 := fmt_sval h
  rw [e1, cap_zero]
  constructor
  · intro e; rw [← e3]; exact fmt_zero.2 (by omega)
  · intro e; have := fmt_zero.1 (e3.trans e); omega
theorem prs_lim {bs : List Int} {lim : Nat} : (prs lim bs).1.natAbs ≤ lim := by
  unfold prs; split
  · split
    · exact Nat.zero_le _
    · show (sval bs).natAbs ≤ lim; omega
  · exact Nat.zero_le _

set_option maxHeartbeats 1000000 in
theorem xprs_b (bs : List Int) (hB : isB bs) (hl : bs.length ≤ 1000000) (w : World) : Calls Tryd.prog 10 #[.string (strOfNums bs)] w fun e w' => e = .returned (.tuple #[.int .i64 (prs 4611686018427387904 bs).1, .int .i64 (prs 4611686018427387904 bs).2]) ∧ Below w.heap.size w w' := by
  have cD := fun w' => xdec_b bs hB hl w'
  have hin := dc_in bs
  cases hI : isInt bs
  focus
    rw [hI] at cD
    rw [show prs 4611686018427387904 bs = (0, 3) from by unfold prs; rw [hI]; rfl]
    generalize dcM bs = b at *
    generalize dcN bs = a at *
    generalize dcZ bs = c at *
    generalize strOfNums bs = S at *
    clear hI hB hl
    go_enter Tryd.func10, Tryd.ntmps10
    go_wp2_with (go_at_call 28; refine Calls.mono (gw_at (cD _)) ?_; rintro e w1 ⟨rfl, q, rfl⟩)
    exact bodyPost_ret (v := .tuple #[.int .i64 0, .int .i64 3]) (by simp [results, Tryd.results10, go_sem]) rfl ⟨rfl, (by repeat (first | with_reducible exact Below.refl _ _ | with_reducible assumption | refine bgw ?_ (by first | (simp; done) | (simp; omega) | omega) _ | refine Below.setCell ?_ (by first | exact Nat.le_of_not_lt (by assumption) | (simp; done) | (simp; omega) | omega) _ | refine Below.alloc ?_ (by first | (simp; done) | (simp; omega) | omega) _ | refine Below.drew ?_))⟩
  rw [hI] at cD
  obtain ⟨p1, p2⟩ := prs_dc (lim := 4611686018427387904) (Nat.le_refl _) hI
  have cW := fun w' => within_b (dcN bs) (dcM bs) (dcZ bs) 4611686018427387904 hin.1 hin.2 w'
  rw [show (4611686018427387904 : Int) = ((4611686018427387904 : Nat) : Int) from rfl, p1, p2] at cW
  rw [show ((4611686018427387904 : Nat) : Int) = 4611686018427387904 from rfl] at cW
  generalize (prs 4611686018427387904 bs).1 = r1 at *
  generalize (prs 4611686018427387904 bs).2 = r2 at *
  generalize dcM bs = b at *
  generalize dcN bs = a at *
  generalize dcZ bs = c at *
  generalize strOfNums bs = S at *
  clear hI hB hl p1 p2 hin
  go_enter Tryd.func10, Tryd.ntmps10
  go_wp2_with (first | (go_at_call 28; refine Calls.mono (gw_at (cD _)) ?_; rintro e w1 ⟨rfl, q, rfl⟩) | (go_at_call 29; refine Calls.mono (gw_at (cW _)) ?_; rintro e w1 ⟨rfl, q, rfl⟩))
  exact bodyPost_ret (v := .tuple #[.int .i64 r1, .int .i64 r2]) (by simp [results, Tryd.results10, go_sem]) rfl ⟨rfl, (by repeat (first | with_reducible exact Below.refl _ _ | with_reducible assumption | refine bgw ?_ (by first | (simp; done) | (simp; omega) | omega) _ | refine Below.setCell ?_ (by first | exact Nat.le_of_not_lt (by assumption) | (simp; done) | (simp; omega) | omega) _ | refine Below.alloc ?_ (by first | (simp; done) | (simp; omega) | omega) _ | refine Below.drew ?_))⟩

/-- parseUnits. -/
def unF (t : List Int) : Int × Int := if isInt t = true ∧ t ≠ [48] then ((prs 8191 t).1 * 65536, (prs 8191 t).2) else (0, 3)

set_option maxHeartbeats 1000000 in
theorem xun_b (bs : List Int) (hB : isB bs) (hl : bs.length ≤ 1000000) (w : World) : Calls Tryd.prog 32 #[.string (strOfNums bs)] w fun e w' => e = .returned (.tuple #[.int .i64 (unF bs).1, .int .i64 (unF bs).2]) ∧ Below w.heap.size w w' := by
  have cD := fun w' => xdec_b bs hB hl w'
  have hin := dc_in bs
  cases hI : isInt bs
  focus
    rw [hI] at cD
    rw [show unF bs = (0, 3) from by unfold unF; rw [if_neg (by simp [hI])]]
    generalize dcM bs = b at *
    generalize dcN bs = a at *
    generalize dcZ bs = c at *
    generalize strOfNums bs = S at *
    clear hI hB hl
    go_enter Tryd.func32, Tryd.ntmps32
    go_wp2_with (go_at_call 28; refine Calls.mono (gw_at (cD _)) ?_; rintro e w1 ⟨rfl, q, rfl⟩)
    exact bodyPost_ret (v := .tuple #[.int .i64 0, .int .i64 3]) (by simp [results, Tryd.results32, go_sem]) rfl ⟨rfl, (by repeat (first | with_reducible exact Below.refl _ _ | with_reducible assumption | refine bgw ?_ (by first | (simp; done) | (simp; omega) | omega) _ | refine Below.setCell ?_ (by first | exact Nat.le_of_not_lt (by assumption) | (simp; done) | (simp; omega) | omega) _ | refine Below.alloc ?_ (by first | (simp; done) | (simp; omega) | omega) _ | refine Below.drew ?_))⟩
  rw [hI] at cD
  have hz := zero_dc hI
  by_cases h48 : bs = [48]
  focus
    rw [show unF bs = (0, 3) from by unfold unF; rw [if_neg (fun e => e.2 h48)]]
    have hb0 : dcM bs = 0 := hz.2 h48
    rw [hb0] at cD
    generalize dcN bs = a at *
    generalize dcZ bs = c at *
    generalize strOfNums bs = S at *
    clear hI hB hl hz hin hb0
    go_enter Tryd.func32, Tryd.ntmps32
    go_wp2_with (go_at_call 28; refine Calls.mono (gw_at (cD _)) ?_; rintro e w1 ⟨rfl, q, rfl⟩)
    exact bodyPost_ret (v := .tuple #[.int .i64 0, .int .i64 3]) (by simp [results, Tryd.results32, go_sem]) rfl ⟨rfl, (by repeat (first | with_reducible exact Below.refl _ _ | with_reducible assumption | refine bgw ?_ (by first | (simp; done) | (simp; omega) | omega) _ | refine Below.setCell ?_ (by first | exact Nat.le_of_not_lt (by assumption) | (simp; done) | (simp; omega) | omega) _ | refine Below.alloc ?_ (by first | (simp; done) | (simp; omega) | omega) _ | refine Below.drew ?_))⟩
  have hb0 : (dcM bs == 0) = false := by rw [beq_eq_false_iff_ne]; exact fun e => h48 (hz.1 e)
  obtain ⟨p1, p2⟩ := prs_dc (lim := 8191) (by decide) hI
  have hlim := prs_lim (bs := bs) (lim := 8191)
  have cW := fun w' => within_b (dcN bs) (dcM bs) (dcZ bs) 8191 hin.1 hin.2 w'
  rw [show (8191 : Int) = ((8191 : Nat) : Int) from rfl, p1, p2] at cW
  rw [show ((8191 : Nat) : Int) = 8191 from rfl] at cW
  rw [show unF bs = ((prs 8191 bs).1 * 65536, (prs 8191 bs).2) from by unfold unF; rw [if_pos ⟨hI, h48⟩]]
  generalize (prs 8191 bs).1 = r1 at *
  generalize (prs 8191 bs).2 = r2 at *
  have l1 : -8191 ≤ r1 := by omega
  have l2 : r1 ≤ 8191 := by omega
  generalize dcM bs = b at *
  generalize dcN bs = a at *
  generalize dcZ bs = c at *
  generalize strOfNums bs = S at *
  clear hI hB hl p1 p2 hin hz h48 hlim
  go_enter Tryd.func32, Tryd.ntmps32
  go_wp2_with (first | (go_at_call 28; refine Calls.mono (gw_at (cD _)) ?_; rintro e w1 ⟨rfl, q, rfl⟩) | (go_at_call 29; refine Calls.mono (gw_at (cW _)) ?_; rintro e w1 ⟨rfl, q, rfl⟩))
  exact bodyPost_ret (v := .tuple #[.int .i64 (r1 * 65536), .int .i64 r2]) (by simp [results, Tryd.results32, go_sem]) rfl ⟨rfl, (by repeat (first | with_reducible exact Below.refl _ _ | with_reducible assumption | refine bgw ?_ (by first | (simp; done) | (simp; omega) | omega) _ | refine Below.setCell ?_ (by first | exact Nat.le_of_not_lt (by assumption) | (simp; done) | (simp; omega) | omega) _ | refine Below.alloc ?_ (by first | (simp; done) | (simp; omega) | omega) _ | refine Below.drew ?_))⟩

theorem prsF_un {bs : List Int} (h : bs.getLast? = some 117) : prsF bs = unF bs.dropLast := by
  unfold prsF unF prs
  rw [if_pos h]
  by_cases hc : isInt bs.dropLast = true ∧ bs.dropLast ≠ [48]
  · rw [if_pos hc, if_pos hc, if_pos hc.1]; split <;> rfl
  · rw [if_neg hc, if_neg hc]
theorem prsF_no {bs : List Int} (h : ¬ bs.getLast? = some 117) (hI : isInt bs = true) : (¬ dcM bs = 0 → dcZ bs = 0 → prsF bs = (0, 3)) ∧ ((dcM bs = 0 ∨ ¬ dcZ bs = 0) → prsF bs = prs 536870911 bs) := by
  have hz := zero_dc hI
  have e2 := sval_abs bs
  have e3 : dcZ bs = (val (body bs) : Int) % 65536 := by simp [dcZ, hI]
  unfold prsF prs
  rw [if_neg h, if_pos hI]
  constructor
  · intro h1 h2
    rw [if_neg]
    rintro ⟨-, h3 | h3⟩
    · exact h1 (hz.2 h3)
    · omega
  · intro h1
    rw [if_pos]
    refine ⟨hI, ?_⟩
    rcases h1 with h1 | h1
    · exact .inl (hz.1 h1)
    · exact .inr (by omega)

set_option maxHeartbeats 2000000 in
theorem xprsF_b (bs : List Int) (hB : isB bs) (hl : bs.length ≤ 1000000) (w : World) : Calls Tryd.prog 12 #[.string (strOfNums bs)] w fun e w' => e = .returned (.tuple #[.int .i64 (prsF bs).1, .int .i64 (prsF bs).2]) ∧ Below w.heap.size w w' := by
  have cS := fun w' => cuts_b 117 bs hB hl w'
  rw [show (((117 : UInt8).toNat : Nat) : Int) = 117 from rfl] at cS
  by_cases hu : bs.getLast? = some 117
  focus
    rw [if_pos hu, decide_eq_true hu] at cS
    rw [prsF_un hu]
    have cU := fun w' => xun_b bs.dropLast (fun x hx => hB x ((List.dropLast_sublist bs).subset hx)) (by simp; omega) w'
    generalize unF bs.dropLast = r at *
    obtain ⟨r1, r2⟩ := r
    dsimp only at cU ⊢
    generalize strOfNums bs.dropLast = T at *
    generalize strOfNums bs = S at *
    clear hu hB hl
    go_enter Tryd.func12, Tryd.ntmps12
    go_wp2_with (first | (go_at_call 31; refine Calls.mono (gw_at (cS _)) ?_; rintro e w1 ⟨rfl, q, rfl⟩) | (go_at_call 32; refine Calls.mono (gw_at (cU _)) ?_; rintro e w1 ⟨rfl, q, rfl⟩))
    exact bodyPost_ret (v := .tuple #[.int .i64 r1, .int .i64 r2]) (by simp [results, Tryd.results12, go_sem]) rfl ⟨rfl, (by repeat (first | with_reducible exact Below.refl _ _ | with_reducible assumption | refine bgw ?_ (by first | (simp; done) | (simp; omega) | omega) _ | refine Below.setCell ?_ (by first | exact Nat.le_of_not_lt (by assumption) | (simp; done) | (simp; omega) | omega) _ | refine Below.alloc ?_ (by first | (simp; done) | (simp; omega) | omega) _ | refine Below.drew ?_))⟩
  rw [if_neg hu, decide_eq_false hu] at cS
  have cD := fun w' => xdec_b bs hB hl w'
  have hin := dc_in bs
  cases hI : isInt bs
  focus
    rw [hI] at cD
    rw [show prsF bs = (0, 3) from by unfold prsF; rw [if_neg hu, if_neg (by simp [hI])]]
    generalize dcM bs = b at *
    generalize dcN bs = a at *
    generalize dcZ bs = c at *
    generalize strOfNums bs = S at *
    clear hI hB hl hu
    go_enter Tryd.func12, Tryd.ntmps12
    go_wp2_with (first | (go_at_call 31; refine Calls.mono (gw_at (cS _)) ?_; rintro e w1 ⟨rfl, q, rfl⟩) | (go_at_call 28; refine Calls.mono (gw_at (cD _)) ?_; rintro e w1 ⟨rfl, q, rfl⟩))
    exact bodyPost_ret (v := .tuple #[.int .i64 0, .int .i64 3]) (by simp [results, Tryd.results12, go_sem]) rfl ⟨rfl, (by repeat (first | with_reducible exact Below.refl _ _ | with_reducible assumption | refine bgw ?_ (by first | (simp; done) | (simp; omega) | omega) _ | refine Below.setCell ?_ (by first | exact Nat.le_of_not_lt (by assumption) | (simp; done) | (simp; omega) | omega) _ | refine Below.alloc ?_ (by first | (simp; done) | (simp; omega) | omega) _ | refine Below.drew ?_))⟩
  rw [hI] at cD
  obtain ⟨n1, n2⟩ := prsF_no hu hI
  by_cases hbad : ¬ dcM bs = 0 ∧ dcZ bs = 0
  focus
    rw [n1 hbad.1 hbad.2]
    have hb0 : (dcM bs != 0) = true := by rw [bne_iff_ne]; exact hbad.1
    have hc0 : (dcZ bs == 0) = true := by rw [beq_iff_eq]; exact hbad.2
    generalize dcM bs = b at *
    generalize dcN bs = a at *
    generalize dcZ bs = c at *
    generalize strOfNums bs = S at *
    clear hI hB hl hu n1 n2 hbad hin
    go_enter Tryd.func12, Tryd.ntmps12
    go_wp2_with (first | (go_at_call 31; refine Calls.mono (gw_at (cS _)) ?_; rintro e w1 ⟨rfl, q, rfl⟩) | (go_at_call 28; refine Calls.mono (gw_at (cD _)) ?_; rintro e w1 ⟨rfl, q, rfl⟩))
    exact bodyPost_ret (v := .tuple #[.int .i64 0, .int .i64 3]) (by simp [results, Tryd.results12, go_sem]) rfl ⟨rfl, (by repeat (first | with_reducible exact Below.refl _ _ | with_reducible assumption | refine bgw ?_ (by first | (simp; done) | (simp; omega) | omega) _ | refine Below.setCell ?_ (by first | exact Nat.le_of_not_lt (by assumption) | (simp; done) | (simp; omega) | omega) _ | refine Below.alloc ?_ (by first | (simp; done) | (simp; omega) | omega) _ | refine Below.drew ?_))⟩
  rw [n2 (by omega)]
  obtain ⟨p1, p2⟩ := prs_dc (lim := 536870911) (by decide) hI
  have cW := fun w' => within_b (dcN bs) (dcM bs) (dcZ bs) 536870911 hin.1 hin.2 w'
  rw [show (536870911 : Int) = ((536870911 : Nat) : Int) from rfl, p1, p2] at cW
  rw [show ((536870911 : Nat) : Int) = 536870911 from rfl] at cW
  have hcase : (dcM bs != 0) = false ∨ ((dcM bs != 0) = true ∧ (dcZ bs == 0) = false) := by
    by_cases h1 : dcM bs = 0
    · exact .inl (by simp [h1])
    · exact .inr ⟨by rw [bne_iff_ne]; exact h1, by rw [beq_eq_false_iff_ne]; exact fun e => hbad ⟨h1, e⟩⟩
  generalize (prs 536870911 bs).1 = r1 at *
  generalize (prs 536870911 bs).2 = r2 at *
  generalize dcM bs = b at *
  generalize dcN bs = a at *
  generalize dcZ bs = c at *
  generalize strOfNums bs = S at *
  clear hI hB hl p1 p2 hin hbad n1 n2 hu
  rcases hcase with hb0 | ⟨hb0, hc0⟩
  all_goals
    go_enter Tryd.func12, Tryd.ntmps12
    go_wp2_with (first | (go_at_call 31; refine Calls.mono (gw_at (cS _)) ?_; rintro e w1 ⟨rfl, q, rfl⟩) | (go_at_call 28; refine Calls.mono (gw_at (cD _)) ?_; rintro e w1 ⟨rfl, q, rfl⟩) | (go_at_call 29; refine Calls.mono (gw_at (cW _)) ?_; rintro e w1 ⟨rfl, q, rfl⟩))
    exact bodyPost_ret (v := .tuple #[.int .i64 r1, .int .i64 r2]) (by simp [results, Tryd.results12, go_sem]) rfl ⟨rfl, (by repeat (first | with_reducible exact Below.refl _ _ | with_reducible assumption | refine bgw ?_ (by first | (simp; done) | (simp; omega) | omega) _ | refine Below.setCell ?_ (by first | exact Nat.le_of_not_lt (by assumption) | (simp; done) | (simp; omega) | omega) _ | refine Below.alloc ?_ (by first | (simp; done) | (simp; omega) | omega) _ | refine Below.drew ?_))⟩

end Go.Proofs.YtdlnidefjdjocaaDoor
