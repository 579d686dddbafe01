/- The walk of chapter 8's stage theorem: it returns true for every input, and nothing that existed has changed. No conditions. -/
import Derived.Test.YtdlnidefjdjocaaDoorFixFM
import Derived.Deep.DeepCutAuto
set_option linter.unusedVariables false
namespace Go.Proofs.YtdlnidefjdjocaaDoor
open Go.RowKit Fm

theorem prs_in {lim : Nat} {s : List Int} {n : Int} (h : prs lim s = (n, 0)) : n.natAbs ≤ lim := by
  unfold prs at h
  split at h
  · split at h
    · simp at h
    · simp only [Prod.mk.injEq, and_true] at h; omega
  · simp at h
theorem prsF_in {s : List Int} {n : Int} (h : prsF s = (n, 0)) : n.natAbs ≤ 536870912 := by
  unfold prsF at h
  split at h
  · split at h
    · split at h
      · simp at h
      · simp only [Prod.mk.injEq, and_true] at h; omega
    · simp at h
  · split at h
    · split at h
      · simp at h
      · simp only [Prod.mk.injEq, and_true] at h; omega
    · simp at h
theorem dg_isB (m : Nat) : isB (dg m) := fun x hx => by have := isD_iff.1 (dg_all m x hx); omega
theorem fmt_isB (n : Int) : isB (fmt n) := by
  unfold fmt; split
  · intro x hx; simp at hx; omega
  · split
    · intro x hx; rcases List.mem_cons.1 hx with rfl | hx
      · omega
      · exact dg_isB _ x hx
    · exact dg_isB _
theorem fmt_len {n : Int} (h0 : -9223372036854775808 ≤ n) (h1 : n ≤ 9223372036854775807) : (fmt n).length ≤ 21 := by
  have hd : (dg n.natAbs).length ≤ 20 := dg_len 20 _ (by rw [show (10 : Nat) ^ 20 = 100000000000000000000 from by decide]; omega)
  unfold fmt; split
  · simp
  · split <;> simp <;> omega
theorem fmtF_isB (n : Int) : isB (fmtF n) := by
  unfold fmtF; split
  · exact isB_append (fmt_isB _) (fun x hx => by simp at hx; omega)
  · exact fmt_isB _
theorem fmtF_len {n : Int} (h0 : -9223372036854775808 ≤ n) (h1 : n ≤ 9223372036854775807) : (fmtF n).length ≤ 22 := by
  have hq := Int.mul_tdiv_add_tmod n 65536
  have hM0 : (n.tmod 65536).natAbs < 65536 := by rw [Int.natAbs_tmod]; exact Nat.mod_lt _ (by decide)
  unfold fmtF; split
  · have := fmt_len (n := n.tdiv 65536) (by omega) (by omega); simp; omega
  · have := fmt_len h0 h1; omega

set_option maxRecDepth 100000 in
set_option maxHeartbeats 8000000 in
theorem walk_FormatRoundTrip (n x : Int) (s : ByteArray) (A : Option Addr) (cap : Nat) (l : List ByteArray) (hn : IntKind.i64.has n) (hx : IntKind.i64.has x) (w : World) (hT : Tb w) (hp : Strs w A l) (hl : l.length ≤ cap) (hc : cap ≤ maxLen) : Calls Tryd.prog 3 #[.int .i64 n, .int .i64 x, .string s, .slice A l.length cap] w fun e w' => e = .returned (.bool true) ∧ Below w.heap.size w w' := by
  by_cases h1 : 200 < s.size
  focus
    have h1' : (200 : Int) < (s.size : Int) := by omega
    go_enter Tryd.func3, Tryd.ntmps3
    go_wp2_with (go_at_call 9; refine Calls.mono (gw_at (example8_b _ (Tb.to hT (by repeat (first | with_reducible exact Below.refl _ _ | with_reducible assumption | refine bgw ?_ (by first | (simp; done) | (simp; omega) | omega) _ | refine Below.setCell ?_ (by first | exact Nat.le_of_not_lt (by assumption) | (simp; done) | (simp; omega) | omega) _ | refine Below.alloc ?_ (by first | (simp; done) | (simp; omega) | omega) _ | refine Below.drew ?_))))) ?_; rintro e w1 ⟨rfl, q, rfl⟩)
    go_ret
    exact ⟨rfl, (by repeat (first | with_reducible exact Below.refl _ _ | with_reducible assumption | refine bgw ?_ (by first | (simp; done) | (simp; omega) | omega) _ | refine Below.setCell ?_ (by first | exact Nat.le_of_not_lt (by assumption) | (simp; done) | (simp; omega) | omega) _ | refine Below.alloc ?_ (by first | (simp; done) | (simp; omega) | omega) _ | refine Below.drew ?_))⟩
  have h1' : ¬ (200 : Int) < (s.size : Int) := by omega
  by_cases h2 : 20 < l.length
  focus
    have h2' : (20 : Int) < (l.length : Int) := by omega
    go_enter Tryd.func3, Tryd.ntmps3
    go_wp2_with (go_at_call 9; refine Calls.mono (gw_at (example8_b _ (Tb.to hT (by repeat (first | with_reducible exact Below.refl _ _ | with_reducible assumption | refine bgw ?_ (by first | (simp; done) | (simp; omega) | omega) _ | refine Below.setCell ?_ (by first | exact Nat.le_of_not_lt (by assumption) | (simp; done) | (simp; omega) | omega) _ | refine Below.alloc ?_ (by first | (simp; done) | (simp; omega) | omega) _ | refine Below.drew ?_))))) ?_; rintro e w1 ⟨rfl, q, rfl⟩)
    go_ret
    exact ⟨rfl, (by repeat (first | with_reducible exact Below.refl _ _ | with_reducible assumption | refine bgw ?_ (by first | (simp; done) | (simp; omega) | omega) _ | refine Below.setCell ?_ (by first | exact Nat.le_of_not_lt (by assumption) | (simp; done) | (simp; omega) | omega) _ | refine Below.alloc ?_ (by first | (simp; done) | (simp; omega) | omega) _ | refine Below.drew ?_))⟩
  have h2' : ¬ (20 : Int) < (l.length : Int) := by omega
  have n1 : n ≤ 9223372036854775807 := by have := hn.2; simpa [IntKind.max, IntKind.bits, IntKind.signed] using this
  have n0 : -9223372036854775808 ≤ n := by have := hn.1; simpa [IntKind.min, IntKind.bits, IntKind.signed] using this
  have x1 : x ≤ 9223372036854775807 := by have := hx.2; simpa [IntKind.max, IntKind.bits, IntKind.signed] using this
  have x0 : -9223372036854775808 ≤ x := by have := hx.1; simpa [IntKind.min, IntKind.bits, IntKind.signed] using this
  clear hn hx
  have cN := fun w' t' => xfmt_b n n0 n1 w' t'
  have cX := fun w' t' => xfmtF_b x x0 x1 w' t'
  have cPN := fun w' => xprs_b (fmt n) (fmt_isB n) (by have := fmt_len n0 n1; omega) w'
  have cPX := fun w' => xprsF_b (fmtF x) (fmtF_isB x) (by have := fmtF_len x0 x1; omega) w'
  rw [prs_fmt] at cPN
  rw [prsF_fmtF] at cPX
  have hB := nums_isB s
  have hL : (nums s).length ≤ 1000000 := by rw [nums_length]; omega
  have cS := fun w' => xprs_b (nums s) hB hL w'
  have cT := fun w' => xprsF_b (nums s) hB hL w'
  have cSf : (prs 4611686018427387904 (nums s)).2 = 0 → ∀ w', Tb w' → Calls Tryd.prog 11 #[.int .i64 (prs 4611686018427387904 (nums s)).1] w' fun e w'' => e = .returned (.string s) ∧ Below w'.heap.size w' w'' := fun h w' t' => by
    have e : prs 4611686018427387904 (nums s) = ((prs 4611686018427387904 (nums s)).1, 0) := Prod.ext rfl h
    have hi := prs_in e
    have := xfmt_b (prs 4611686018427387904 (nums s)).1 (by omega) (by omega) w' t'
    rw [fmt_prs e, of_nums] at this; exact this
  have cTf : (prsF (nums s)).2 = 0 → ∀ w', Tb w' → Calls Tryd.prog 13 #[.int .i64 (prsF (nums s)).1] w' fun e w'' => e = .returned (.string s) ∧ Below w'.heap.size w' w'' := fun h w' t' => by
    have e : prsF (nums s) = ((prsF (nums s)).1, 0) := Prod.ext rfl h
    have hi := prsF_in e
    have := xfmtF_b (prsF (nums s)).1 (by omega) (by omega) w' t'
    rw [fmtF_prsF e, of_nums] at this; exact this
  rw [of_nums] at cS cT
  generalize strOfNums (fmt n) = N at *
  generalize strOfNums (fmtF x) = X at *
  generalize prs 4611686018427387904 (nums s) = r1 at *
  generalize prsF (nums s) = r2 at *
  obtain ⟨c, g⟩ := r1
  obtain ⟨d, h⟩ := r2
  dsimp only at cS cT cSf cTf
  clear hB hL n0 n1 x0 x1 h1 h2
  have hn3 : (4611686018427387904 < n.natAbs ∧ n < -4611686018427387904) ∨ (4611686018427387904 < n.natAbs ∧ ¬ n < -4611686018427387904 ∧ 4611686018427387904 < n) ∨ (¬ 4611686018427387904 < n.natAbs ∧ ¬ n < -4611686018427387904 ∧ ¬ 4611686018427387904 < n) := by omega
  have hx3 : (536870911 < x.natAbs ∧ x < -536870911) ∨ (536870911 < x.natAbs ∧ ¬ x < -536870911 ∧ 536870911 < x) ∨ (¬ 536870911 < x.natAbs ∧ ¬ x < -536870911 ∧ ¬ 536870911 < x) := by omega
  obtain ⟨rn, hrn⟩ : ∃ r : Int × Int, (if 4611686018427387904 < n.natAbs then ((0, 6) : Int × Int) else (n, 0)) = r := ⟨_, rfl⟩
  obtain ⟨rx, hrx⟩ : ∃ r : Int × Int, (if 536870911 < x.natAbs then ((0, 6) : Int × Int) else (x, 0)) = r := ⟨_, rfl⟩
  rw [hrn] at cPN
  rw [hrx] at cPX
  obtain ⟨a, e⟩ := rn
  obtain ⟨b, f⟩ := rx
  dsimp only at cPN cPX
  go_enter Tryd.func3, Tryd.ntmps3
  go_upto_region 5 with (first
    | (go_at_call 11; refine Calls.mono (gw_at (cN _ (Tb.to hT (by repeat (first | with_reducible exact Below.refl _ _ | with_reducible assumption | refine bgw ?_ (by first | (simp; done) | (simp; omega) | omega) _ | refine Below.setCell ?_ (by first | exact Nat.le_of_not_lt (by assumption) | (simp; done) | (simp; omega) | omega) _ | refine Below.alloc ?_ (by first | (simp; done) | (simp; omega) | omega) _ | refine Below.drew ?_))))) ?_; rintro e w1 ⟨rfl, q, rfl⟩)
    | (go_at_call 13; refine Calls.mono (gw_at (cX _ (Tb.to hT (by repeat (first | with_reducible exact Below.refl _ _ | with_reducible assumption | refine bgw ?_ (by first | (simp; done) | (simp; omega) | omega) _ | refine Below.setCell ?_ (by first | exact Nat.le_of_not_lt (by assumption) | (simp; done) | (simp; omega) | omega) _ | refine Below.alloc ?_ (by first | (simp; done) | (simp; omega) | omega) _ | refine Below.drew ?_))))) ?_; rintro e w1 ⟨rfl, q, rfl⟩)
    | (go_at_call 10; refine Calls.mono (gw_at (cPN _)) ?_; rintro e w1 ⟨rfl, q, rfl⟩)
    | (go_at_call 12; refine Calls.mono (gw_at (cPX _)) ?_; rintro e w1 ⟨rfl, q, rfl⟩))
  refine wp_named ?_
  intro W hW
  have hbW : Below w.heap.size w W := by rw [hW]; exact (by repeat (first | with_reducible exact Below.refl _ _ | with_reducible assumption | refine bgw ?_ (by first | (simp; done) | (simp; omega) | omega) _ | refine Below.setCell ?_ (by first | exact Nat.le_of_not_lt (by assumption) | (simp; done) | (simp; omega) | omega) _ | refine Below.alloc ?_ (by first | (simp; done) | (simp; omega) | omega) _ | refine Below.drew ?_))
  have hszW := hbW.size
  clear hW cN cX cPN cPX
  obtain ⟨TL, hTL⟩ : ∃ t, decide (4611686018427387904 < n.natAbs) = t := ⟨_, rfl⟩
  obtain ⟨US, hUS⟩ : ∃ t, decide (536870911 < x.natAbs) = t := ⟨_, rfl⟩
  go_cut [13, 14] (fun t u wx => t = .bool TL ∧ u = .bool US ∧ ∃ p, wx = gw W p)
  case first =>
    clear cS cT cSf cTf hrn hrx
    rcases hn3 with ⟨u1, u2⟩ | ⟨u1, u2, u3⟩ | ⟨u1, u2, u3⟩ <;> rcases hx3 with ⟨v1, v2⟩ | ⟨v1, v2, v3⟩ | ⟨v1, v2, v3⟩
    all_goals
      simp only [u1, decide_true, decide_false] at hTL
      simp only [v1, decide_true, decide_false] at hUS
      subst hTL hUS
      clear u1 v1
      go_wp2_with fail
      all_goals (go_meet; refine ⟨?_, ?_, gw_of_below (by repeat (first | with_reducible exact Below.refl _ _ | with_reducible assumption | refine bgw ?_ (by first | (simp; done) | (simp; omega) | omega) _ | refine Below.setCell ?_ (by first | exact Nat.le_of_not_lt (by assumption) | (simp; done) | (simp; omega) | omega) _ | refine Below.alloc ?_ (by first | (simp; done) | (simp; omega) | omega) _ | refine Below.drew ?_))⟩ <;> first | rfl | trivial | (simp; done) | (simp; omega))
  case rest =>
  obtain ⟨rfl, rfl, p, rfl⟩ := hcut
  go_upto_region 6 with fail
  go_cut [100] (fun c wx => c = .bool false ∧ ∃ p, wx = gw W p)
  case first =>
    clear cS cT cSf cTf
    by_cases u1 : 4611686018427387904 < n.natAbs <;> by_cases v1 : 536870911 < x.natAbs
    all_goals
      simp only [u1, if_true, if_false, Prod.mk.injEq] at hrn
      simp only [v1, if_true, if_false, Prod.mk.injEq] at hrx
      obtain ⟨rfl, rfl⟩ := hrn
      obtain ⟨rfl, rfl⟩ := hrx
      simp only [u1, decide_true, decide_false] at hTL
      simp only [v1, decide_true, decide_false] at hUS
      subst hTL hUS
      clear u1 v1 hn3 hx3
      go_wp2_with fail
      all_goals (go_meet; refine ⟨?_, gw_of_below (by repeat (first | with_reducible exact Below.refl _ _ | with_reducible assumption | refine bgw ?_ (by first | (simp; done) | (simp; omega) | omega) _ | refine Below.setCell ?_ (by first | exact Nat.le_of_not_lt (by assumption) | (simp; done) | (simp; omega) | omega) _ | refine Below.alloc ?_ (by first | (simp; done) | (simp; omega) | omega) _ | refine Below.drew ?_))⟩ <;> first | rfl | trivial | (simp; done))
  case rest =>
  obtain ⟨rfl, p, rfl⟩ := hcut
  clear hn3 hx3 hrn hrx hTL hUS
  go_upto_region 10 with (first
    | (go_at_call 10; refine Calls.mono (gw_at (cS _)) ?_; rintro e w1 ⟨rfl, q, rfl⟩)
    | (go_at_call 12; refine Calls.mono (gw_at (cT _)) ?_; rintro e w1 ⟨rfl, q, rfl⟩))
  refine wp_named ?_
  intro V hV
  have hbV : Below w.heap.size w V := by rw [hV]; exact (by repeat (first | with_reducible exact Below.refl _ _ | with_reducible assumption | refine bgw ?_ (by first | (simp; done) | (simp; omega) | omega) _ | refine Below.setCell ?_ (by first | exact Nat.le_of_not_lt (by assumption) | (simp; done) | (simp; omega) | omega) _ | refine Below.alloc ?_ (by first | (simp; done) | (simp; omega) | omega) _ | refine Below.drew ?_))
  have hszV := hbV.size
  clear hV
  go_cut [128] (fun c wx => c = .bool false ∧ ∃ p, wx = gw V p)
  case first =>
    by_cases u1 : g = 0 <;> by_cases v1 : h = 0
    focus
      have fS := cSf u1
      have fT := cTf v1
      subst u1 v1
      go_wp2_with (first
        | (go_at_call 11; refine Calls.mono (gw_at (fS _ (Tb.to hT (by repeat (first | with_reducible exact Below.refl _ _ | with_reducible assumption | refine bgw ?_ (by first | (simp; done) | (simp; omega) | omega) _ | refine Below.setCell ?_ (by first | exact Nat.le_of_not_lt (by assumption) | (simp; done) | (simp; omega) | omega) _ | refine Below.alloc ?_ (by first | (simp; done) | (simp; omega) | omega) _ | refine Below.drew ?_))))) ?_; rintro e w1 ⟨rfl, q, rfl⟩)
        | (go_at_call 13; refine Calls.mono (gw_at (fT _ (Tb.to hT (by repeat (first | with_reducible exact Below.refl _ _ | with_reducible assumption | refine bgw ?_ (by first | (simp; done) | (simp; omega) | omega) _ | refine Below.setCell ?_ (by first | exact Nat.le_of_not_lt (by assumption) | (simp; done) | (simp; omega) | omega) _ | refine Below.alloc ?_ (by first | (simp; done) | (simp; omega) | omega) _ | refine Below.drew ?_))))) ?_; rintro e w1 ⟨rfl, q, rfl⟩))
      go_meet
      refine ⟨?_, gw_of_below (by repeat (first | with_reducible exact Below.refl _ _ | with_reducible assumption | refine bgw ?_ (by first | (simp; done) | (simp; omega) | omega) _ | refine Below.setCell ?_ (by first | exact Nat.le_of_not_lt (by assumption) | (simp; done) | (simp; omega) | omega) _ | refine Below.alloc ?_ (by first | (simp; done) | (simp; omega) | omega) _ | refine Below.drew ?_))⟩ <;> first | rfl | trivial | (simp; done)
    focus
      have fS := cSf u1
      have v2 : (h == 0) = false := by rw [beq_eq_false_iff_ne]; exact v1
      subst u1
      go_wp2_with (go_at_call 11; refine Calls.mono (gw_at (fS _ (Tb.to hT (by repeat (first | with_reducible exact Below.refl _ _ | with_reducible assumption | refine bgw ?_ (by first | (simp; done) | (simp; omega) | omega) _ | refine Below.setCell ?_ (by first | exact Nat.le_of_not_lt (by assumption) | (simp; done) | (simp; omega) | omega) _ | refine Below.alloc ?_ (by first | (simp; done) | (simp; omega) | omega) _ | refine Below.drew ?_))))) ?_; rintro e w1 ⟨rfl, q, rfl⟩)
      go_meet
      refine ⟨?_, gw_of_below (by repeat (first | with_reducible exact Below.refl _ _ | with_reducible assumption | refine bgw ?_ (by first | (simp; done) | (simp; omega) | omega) _ | refine Below.setCell ?_ (by first | exact Nat.le_of_not_lt (by assumption) | (simp; done) | (simp; omega) | omega) _ | refine Below.alloc ?_ (by first | (simp; done) | (simp; omega) | omega) _ | refine Below.drew ?_))⟩ <;> first | rfl | trivial | (simp; done)
    focus
      have fT := cTf v1
      have u2 : (g == 0) = false := by rw [beq_eq_false_iff_ne]; exact u1
      subst v1
      go_wp2_with (go_at_call 13; refine Calls.mono (gw_at (fT _ (Tb.to hT (by repeat (first | with_reducible exact Below.refl _ _ | with_reducible assumption | refine bgw ?_ (by first | (simp; done) | (simp; omega) | omega) _ | refine Below.setCell ?_ (by first | exact Nat.le_of_not_lt (by assumption) | (simp; done) | (simp; omega) | omega) _ | refine Below.alloc ?_ (by first | (simp; done) | (simp; omega) | omega) _ | refine Below.drew ?_))))) ?_; rintro e w1 ⟨rfl, q, rfl⟩)
      go_meet
      refine ⟨?_, gw_of_below (by repeat (first | with_reducible exact Below.refl _ _ | with_reducible assumption | refine bgw ?_ (by first | (simp; done) | (simp; omega) | omega) _ | refine Below.setCell ?_ (by first | exact Nat.le_of_not_lt (by assumption) | (simp; done) | (simp; omega) | omega) _ | refine Below.alloc ?_ (by first | (simp; done) | (simp; omega) | omega) _ | refine Below.drew ?_))⟩ <;> first | rfl | trivial | (simp; done)
    focus
      have u2 : (g == 0) = false := by rw [beq_eq_false_iff_ne]; exact u1
      have v2 : (h == 0) = false := by rw [beq_eq_false_iff_ne]; exact v1
      go_wp2_with fail
      go_meet
      refine ⟨?_, gw_of_below (by repeat (first | with_reducible exact Below.refl _ _ | with_reducible assumption | refine bgw ?_ (by first | (simp; done) | (simp; omega) | omega) _ | refine Below.setCell ?_ (by first | exact Nat.le_of_not_lt (by assumption) | (simp; done) | (simp; omega) | omega) _ | refine Below.alloc ?_ (by first | (simp; done) | (simp; omega) | omega) _ | refine Below.drew ?_))⟩ <;> first | rfl | trivial | (simp; done)
  case rest =>
  obtain ⟨rfl, p, rfl⟩ := hcut
  clear cS cT cSf cTf
  go_wp2_with fail
  go_loopw [19] (fun i wr => ∃ k : Nat, k ≤ l.length ∧ i = .int .i64 k ∧ (∀ j (h : j < l.length), j < k → l[j].size ≤ 40 ∧ isF (nums l[j]) = true) ∧ Below w.heap.size w wr)
    (fun i _ => (l.length - intOf i).toNat)
  case atStart => exact ⟨0, by omega, rfl, by omega, (by repeat (first | with_reducible exact Below.refl _ _ | with_reducible assumption | refine bgw ?_ (by first | (simp; done) | (simp; omega) | omega) _ | refine Below.setCell ?_ (by first | exact Nat.le_of_not_lt (by assumption) | (simp; done) | (simp; omega) | omega) _ | refine Below.alloc ?_ (by first | (simp; done) | (simp; omega) | omega) _ | refine Below.drew ?_))⟩
  case round =>
    obtain ⟨k, hk, rfl, hall, hbw⟩ := hrel
    have hsz := hbw.size
    by_cases hlt : k < l.length
    · have i0 : (0 : Int) ≤ (k : Int) := by omega
      have i1 : (k : Int) < (l.length : Int) := by omega
      obtain ⟨b1, off1, rfl, hce⟩ := Strs.open (hp.to hbw) (by omega)
      have d1 := hce k hlt
      have o1 := older_of_cell d1
      have hsucc : (l[k].size ≤ 40 ∧ isF (nums l[k]) = true) → ∀ j (h : j < l.length), j < k + 1 → l[j].size ≤ 40 ∧ isF (nums l[j]) = true := fun g j h hj => by
        rcases (by omega : j < k ∨ j = k) with h1 | rfl
        · exact hall j h h1
        · exact g
      clear hall hce
      generalize l[k] = y at *
      by_cases hy : 40 < y.size
      · have hy' : (40 : Int) < (y.size : Int) := by omega
        clear hsucc
        go_wp2_with (go_at_call 9; refine Calls.mono (gw_at (example8_b _ (Tb.to hT (by repeat (first | with_reducible exact Below.refl _ _ | with_reducible assumption | refine bgw ?_ (by first | (simp; done) | (simp; omega) | omega) _ | refine Below.setCell ?_ (by first | exact Nat.le_of_not_lt (by assumption) | (simp; done) | (simp; omega) | omega) _ | refine Below.alloc ?_ (by first | (simp; done) | (simp; omega) | omega) _ | refine Below.drew ?_))))) ?_; rintro e w1 ⟨rfl, q, rfl⟩)
        go_ret
        exact ⟨rfl, (by repeat (first | with_reducible exact Below.refl _ _ | with_reducible assumption | refine bgw ?_ (by first | (simp; done) | (simp; omega) | omega) _ | refine Below.setCell ?_ (by first | exact Nat.le_of_not_lt (by assumption) | (simp; done) | (simp; omega) | omega) _ | refine Below.alloc ?_ (by first | (simp; done) | (simp; omega) | omega) _ | refine Below.drew ?_))⟩
      · have hy' : ¬ (40 : Int) < (y.size : Int) := by omega
        have cF := fun w' => risf_b (nums y) (nums_isB y) (by rw [nums_length]; omega) w'
        rw [of_nums] at cF
        cases hf : isF (nums y)
        · rw [hf] at cF
          clear hsucc
          go_wp2_with (first
            | (go_at_call 14; refine Calls.mono (gw_at (cF _)) ?_; rintro e w1 ⟨rfl, q, rfl⟩)
            | (go_at_call 9; refine Calls.mono (gw_at (example8_b _ (Tb.to hT (by repeat (first | with_reducible exact Below.refl _ _ | with_reducible assumption | refine bgw ?_ (by first | (simp; done) | (simp; omega) | omega) _ | refine Below.setCell ?_ (by first | exact Nat.le_of_not_lt (by assumption) | (simp; done) | (simp; omega) | omega) _ | refine Below.alloc ?_ (by first | (simp; done) | (simp; omega) | omega) _ | refine Below.drew ?_))))) ?_; rintro e w1 ⟨rfl, q, rfl⟩))
          go_ret
          exact ⟨rfl, (by repeat (first | with_reducible exact Below.refl _ _ | with_reducible assumption | refine bgw ?_ (by first | (simp; done) | (simp; omega) | omega) _ | refine Below.setCell ?_ (by first | exact Nat.le_of_not_lt (by assumption) | (simp; done) | (simp; omega) | omega) _ | refine Below.alloc ?_ (by first | (simp; done) | (simp; omega) | omega) _ | refine Below.drew ?_))⟩
        · rw [hf] at cF
          have hg := hsucc ⟨by omega, hf⟩
          clear hsucc
          go_wp2_with (go_at_call 14; refine Calls.mono (gw_at (cF _)) ?_; rintro e w1 ⟨rfl, q, rfl⟩)
          exact ⟨⟨k + 1, by omega, by go_num, hg, (by repeat (first | with_reducible exact Below.refl _ _ | with_reducible assumption | refine bgw ?_ (by first | (simp; done) | (simp; omega) | omega) _ | refine Below.setCell ?_ (by first | exact Nat.le_of_not_lt (by assumption) | (simp; done) | (simp; omega) | omega) _ | refine Below.alloc ?_ (by first | (simp; done) | (simp; omega) | omega) _ | refine Below.drew ?_))⟩, by (try go_num); simp [intOf]; (try omega)⟩
    · obtain rfl : k = l.length := by omega
      have i1 : ¬ (l.length : Int) < (l.length : Int) := by omega
      have h40 : ∀ x ∈ l, x.size ≤ 40 := fun x hx => by obtain ⟨j, hj, rfl⟩ := List.mem_iff_getElem.1 hx; exact (hall j hj hj).1
      have hff : ∀ f ∈ numss l, isF f = true := fun f hf => by
        obtain ⟨x, hx, rfl⟩ := List.mem_map.1 hf
        obtain ⟨j, hj, rfl⟩ := List.mem_iff_getElem.1 hx; exact (hall j hj hj).2
      have hfB : ∀ f ∈ numss l, isB f := fun f hf => by obtain ⟨x, hx, rfl⟩ := List.mem_map.1 hf; exact nums_isB x
      have hjl : (jn (numss l)).length ≤ 1000000 := by
        have := jn_len 40 (numss l) fun f hf => by obtain ⟨x, hx, rfl⟩ := List.mem_map.1 hf; rw [nums_length]; exact h40 x hx
        have e : (numss l).length = l.length := by simp [numss]
        rw [e] at this; omega
      have cJ := fun w' => fun hb : Strs w' A l => xjoin_b A cap 40 l h40 (by omega) w' hb
      have cF := fun w' => row_strs (xfields_b (jn (numss l)) (jn_isB _ hfB) hjl w')
      rw [fields_jn hff] at cF
      have hnl : (numss l).length = l.length := by simp [numss]
      simp only [strs_numss, hnl] at cF
      have cE : ∀ (A1 A2 : Option Addr) (c1 c2 : Nat) w', Strs w' A1 l → Strs w' A2 l → Calls Tryd.prog 17 #[.slice A1 l.length c1, .slice A2 l.length c2] w' fun e w'' => e = .returned (.bool true) ∧ Below w'.heap.size w' w'' := fun A1 A2 c1 c2 w' s1 s2 => by
        have := req8_b A1 A2 c1 c2 l l (by omega) (by omega) w' s1 s2
        rw [decide_eq_true rfl] at this; exact this
      generalize strOfNums (jn (numss l)) = J at *
      clear hall h40 hff hfB hjl hnl
      have hp' : Strs wr A l := hp.to hbw
      go_wp2_with (first
        | (go_at_call 16; refine Calls.mono (gw_at (cJ _ (Cs.to hp' (by repeat (first | with_reducible exact Below.refl _ _ | with_reducible assumption | refine bgw ?_ (by first | (simp; done) | (simp; omega) | omega) _ | refine Below.setCell ?_ (by first | exact Nat.le_of_not_lt (by assumption) | (simp; done) | (simp; omega) | omega) _ | refine Below.alloc ?_ (by first | (simp; done) | (simp; omega) | omega) _ | refine Below.drew ?_))))) ?_; rintro e w1 ⟨rfl, q, rfl⟩)
        | (go_at_call 15; refine Calls.mono (gw_ex (cF _)) ?_; rintro e w1 ⟨⟨A1, ca1, rfl, s1⟩, q1, rfl⟩)
        | (go_at_call 17; refine Calls.mono (gw_at (cE _ _ _ _ _ (Cs.to s1 (by repeat (first | with_reducible exact Below.refl _ _ | with_reducible assumption | refine bgw ?_ (by first | (simp; done) | (simp; omega) | omega) _ | refine Below.setCell ?_ (by first | exact Nat.le_of_not_lt (by assumption) | (simp; done) | (simp; omega) | omega) _ | refine Below.alloc ?_ (by first | (simp; done) | (simp; omega) | omega) _ | refine Below.drew ?_))) (Cs.to hp' (by repeat (first | with_reducible exact Below.refl _ _ | with_reducible assumption | refine bgw ?_ (by first | (simp; done) | (simp; omega) | omega) _ | refine Below.setCell ?_ (by first | exact Nat.le_of_not_lt (by assumption) | (simp; done) | (simp; omega) | omega) _ | refine Below.alloc ?_ (by first | (simp; done) | (simp; omega) | omega) _ | refine Below.drew ?_))))) ?_; rintro e w1 ⟨rfl, q, rfl⟩)
        | (go_at_call 9; refine Calls.mono (gw_at (example8_b _ (Tb.to hT (by repeat (first | with_reducible exact Below.refl _ _ | with_reducible assumption | refine bgw ?_ (by first | (simp; done) | (simp; omega) | omega) _ | refine Below.setCell ?_ (by first | exact Nat.le_of_not_lt (by assumption) | (simp; done) | (simp; omega) | omega) _ | refine Below.alloc ?_ (by first | (simp; done) | (simp; omega) | omega) _ | refine Below.drew ?_))))) ?_; rintro e w1 ⟨rfl, q, rfl⟩))
      go_ret
      exact ⟨rfl, (by repeat (first | with_reducible exact Below.refl _ _ | with_reducible assumption | refine bgw ?_ (by first | (simp; done) | (simp; omega) | omega) _ | refine Below.setCell ?_ (by first | exact Nat.le_of_not_lt (by assumption) | (simp; done) | (simp; omega) | omega) _ | refine Below.alloc ?_ (by first | (simp; done) | (simp; omega) | omega) _ | refine Below.drew ?_))⟩

end Go.Proofs.YtdlnidefjdjocaaDoor
