/- The contract of chapter 8's examples, and the walks of its statements of numbers: each returns true for every input, and nothing that existed has changed. No conditions. -/
import Derived.Test.YtdlnidefjdjocaaDoorFixFY
import Derived.Test.YtdlnidefjdjocaaDoorOp
set_option linter.unusedVariables false
namespace Go.Proofs.YtdlnidefjdjocaaDoor
open Go.RowKit Fm

theorem ex8a_b (w : World) : Calls Tryd.prog 12 #[.string { data := #[54, 53, 53, 51, 54] }] w fun e w' => e = .returned (.tuple #[.int .i64 0, .int .i64 3]) ∧ Below w.heap.size w w' := by
  have := xprsF_b [54, 53, 53, 51, 54] (by intro x hx; simp at hx; omega) (by simp) w
  rw [show prsF [54, 53, 53, 51, 54] = (0, 3) from by decide +kernel] at this
  exact this

theorem ex8b_b (w : World) : Calls Tryd.prog 12 #[.string { data := #[45, 50, 117] }] w fun e w' => e = .returned (.tuple #[.int .i64 (-131072), .int .i64 0]) ∧ Below w.heap.size w w' := by
  have := xprsF_b [45, 50, 117] (by intro x hx; simp at hx; omega) (by simp) w
  rw [show prsF [45, 50, 117] = (-131072, 0) from by decide +kernel] at this
  exact this

theorem ex8f_b (w : World) : Calls Tryd.prog 15 #[.string { data := #[97, 32, 98, 99] }] w fun e w' => (∃ A cap, e = .returned (.tuple #[.slice A 2 cap, .int .i64 0]) ∧ Strs w' A [{ data := #[97] }, { data := #[98, 99] }]) ∧ Below w.heap.size w w' := by
  have := xfields_b [97, 32, 98, 99] (by intro x hx; simp at hx; omega) (by simp) w
  rw [show fields [97, 32, 98, 99] = ([[97], [98, 99]], 0) from by decide +kernel] at this
  refine Calls.mono this ?_
  rintro e w' ⟨⟨v, rfl, hown⟩, hb⟩
  obtain ⟨A, cap, rfl, -, -, -, hcs⟩ := owns_sl hown
  exact ⟨⟨A, cap, rfl, hcs⟩, hb⟩

theorem fmt_of {s : List Int} {n : Int} (h : isInt s = true) (hn : sval s = n) : fmt n = s := by rw [← hn]; exact fmt_sval h

theorem ex8g_b (w : World) (hT : Tb w) : Calls Tryd.prog 13 #[.int .i64 65536] w fun e w' => e = .returned (.string { data := #[49, 117] }) ∧ Below w.heap.size w w' := by
  have := xfmtF_b 65536 (by omega) (by omega) w hT
  rw [show fmtF 65536 = [49, 117] from by unfold fmtF; rw [if_pos (by decide), show Int.tdiv 65536 65536 = 1 from by decide, fmt_of (s := [49]) (by decide) (by decide)]; rfl] at this
  exact this

theorem ex8h_b (w : World) (hT : Tb w) : Calls Tryd.prog 13 #[.int .i64 98304] w fun e w' => e = .returned (.string { data := #[57, 56, 51, 48, 52] }) ∧ Below w.heap.size w w' := by
  have := xfmtF_b 98304 (by omega) (by omega) w hT
  rw [show fmtF 98304 = [57, 56, 51, 48, 52] from by unfold fmtF; rw [if_neg (by decide)]; exact fmt_of (by decide) (by decide)] at this
  exact this

theorem ex8i_b (w : World) (hT : Tb w) : Calls Tryd.prog 13 #[.int .i64 0] w fun e w' => e = .returned (.string { data := #[48] }) ∧ Below w.heap.size w w' := by
  have := xfmtF_b 0 (by omega) (by omega) w hT
  rw [show fmtF 0 = [48] from by unfold fmtF; rw [if_neg (by decide)]; exact fmt_of (by decide) (by decide)] at this
  exact this

theorem ex8j_b (w : World) (hT : Tb w) : Calls Tryd.prog 11 #[.int .i64 (-7)] w fun e w' => e = .returned (.string { data := #[45, 55] }) ∧ Below w.heap.size w w' := by
  have := xfmt_b (-7) (by omega) (by omega) w hT
  rw [show fmt (-7) = [45, 55] from fmt_of (by decide) (by decide)] at this
  exact this

theorem ex8k_b (w : World) : Calls Tryd.prog 25 #[.string { data := #[97, 45, 49] }] w fun e w' => e = .returned (.bool true) ∧ Below w.heap.size w w' := by
  have := xident_b [97, 45, 49] (by intro x hx; simp at hx; omega) (by simp) w
  rw [show idt [97, 45, 49] = true from by decide +kernel] at this
  exact this

theorem ex8q_b (A : Option Addr) (cap b : Nat) (t : TypeId) (w : World) (h1 : Strs w A [{ data := #[97] }, { data := #[98, 99] }]) (h2 : blk w b #[.string { data := #[97] }, .string { data := #[98, 99] }] t) : Calls Tryd.prog 17 #[.slice A 2 cap, .slice (some ⟨b, 0, none⟩) 2 2] w fun e w' => e = .returned (.bool true) ∧ Below w.heap.size w w' := by
  have := req8_b A (some ⟨b, 0, none⟩) cap 2 [{ data := #[97] }, { data := #[98, 99] }] [{ data := #[97] }, { data := #[98, 99] }] (by simp) (by simp) w h1 (Cs.of_list h2)
  rw [decide_eq_true rfl] at this
  exact this

set_option maxHeartbeats 1000000 in
theorem example8_b (w : World) (hT : Tb w) : Calls Tryd.prog 9 #[] w fun e w' => e = .returned (.bool true) ∧ Below w.heap.size w w' := by
  go_enter Tryd.func9, Tryd.ntmps9
  go_wp2_with (first
    | (go_at_call 12; (with_reducible show Calls _ _ (#[Value.string { data := #[54, _, _, _, _] }]) _ _); refine Calls.mono (gw_at (ex8a_b _)) ?_; rintro e w1 ⟨rfl, q, rfl⟩)
    | (go_at_call 12; refine Calls.mono (gw_at (ex8b_b _)) ?_; rintro e w1 ⟨rfl, q, rfl⟩)
    | (go_at_call 15; refine Calls.mono (gw_ex (ex8f_b _)) ?_; rintro e w1 ⟨⟨A', cap', rfl, hcs⟩, q, rfl⟩)
    | (go_at_call 13; (with_reducible show Calls _ _ (#[Value.int .i64 65536]) _ _); refine Calls.mono (gw_at (ex8g_b _ (Tb.to hT (by repeat (first | with_reducible exact Below.refl _ _ | with_reducible assumption | refine bgw ?_ (by first | (simp; done) | (simp; omega) | omega) _ | refine Below.setCell ?_ (by first | exact Nat.le_of_not_lt (by assumption) | (simp; done) | (simp; omega) | omega) _ | refine Below.alloc ?_ (by first | (simp; done) | (simp; omega) | omega) _ | refine Below.drew ?_))))) ?_; rintro e w1 ⟨rfl, q, rfl⟩)
    | (go_at_call 13; (with_reducible show Calls _ _ (#[Value.int .i64 98304]) _ _); refine Calls.mono (gw_at (ex8h_b _ (Tb.to hT (by repeat (first | with_reducible exact Below.refl _ _ | with_reducible assumption | refine bgw ?_ (by first | (simp; done) | (simp; omega) | omega) _ | refine Below.setCell ?_ (by first | exact Nat.le_of_not_lt (by assumption) | (simp; done) | (simp; omega) | omega) _ | refine Below.alloc ?_ (by first | (simp; done) | (simp; omega) | omega) _ | refine Below.drew ?_))))) ?_; rintro e w1 ⟨rfl, q, rfl⟩)
    | (go_at_call 13; refine Calls.mono (gw_at (ex8i_b _ (Tb.to hT (by repeat (first | with_reducible exact Below.refl _ _ | with_reducible assumption | refine bgw ?_ (by first | (simp; done) | (simp; omega) | omega) _ | refine Below.setCell ?_ (by first | exact Nat.le_of_not_lt (by assumption) | (simp; done) | (simp; omega) | omega) _ | refine Below.alloc ?_ (by first | (simp; done) | (simp; omega) | omega) _ | refine Below.drew ?_))))) ?_; rintro e w1 ⟨rfl, q, rfl⟩)
    | (go_at_call 11; refine Calls.mono (gw_at (ex8j_b _ (Tb.to hT (by repeat (first | with_reducible exact Below.refl _ _ | with_reducible assumption | refine bgw ?_ (by first | (simp; done) | (simp; omega) | omega) _ | refine Below.setCell ?_ (by first | exact Nat.le_of_not_lt (by assumption) | (simp; done) | (simp; omega) | omega) _ | refine Below.alloc ?_ (by first | (simp; done) | (simp; omega) | omega) _ | refine Below.drew ?_))))) ?_; rintro e w1 ⟨rfl, q, rfl⟩)
    | (go_at_call 25; refine Calls.mono (gw_at (ex8k_b _)) ?_; rintro e w1 ⟨rfl, q, rfl⟩)
    | (go_at_call 17; refine Calls.mono (gw_at (ex8q_b _ _ _ _ _ (Cs.to hcs (by repeat (first | with_reducible exact Below.refl _ _ | with_reducible assumption | refine bgw ?_ (by first | (simp; done) | (simp; omega) | omega) _ | refine Below.setCell ?_ (by first | exact Nat.le_of_not_lt (by assumption) | (simp; done) | (simp; omega) | omega) _ | refine Below.alloc ?_ (by first | (simp; done) | (simp; omega) | omega) _ | refine Below.drew ?_))) (by repeat (first | with_reducible exact blk_new _ _ _ | ((with_reducible refine blk_at ?_); (simp; done)) | with_reducible apply blk_alloc | with_reducible apply blk_gw)))) ?_; rintro e w1 ⟨rfl, q, rfl⟩))
  go_ret
  exact ⟨rfl, (by repeat (first | with_reducible exact Below.refl _ _ | with_reducible assumption | refine bgw ?_ (by first | (simp; done) | (simp; omega) | omega) _ | refine Below.setCell ?_ (by first | exact Nat.le_of_not_lt (by assumption) | (simp; done) | (simp; omega) | omega) _ | refine Below.alloc ?_ (by first | (simp; done) | (simp; omega) | omega) _ | refine Below.drew ?_))⟩

theorem walk_FormatNumbers (n : Int) (hn : IntKind.i64.has n) (w : World) (hT : Tb w) : Calls Tryd.prog 4 #[.int .i64 n] w fun e w' => e = .returned (.bool true) ∧ Below w.heap.size w w' := by
  have h1 : n ≤ 9223372036854775807 := by have := hn.2; simpa [IntKind.max, IntKind.bits, IntKind.signed] using this
  have h0 : -9223372036854775808 ≤ n := by have := hn.1; simpa [IntKind.min, IntKind.bits, IntKind.signed] using this
  have c1 := fun w' t' => xfmt_b n h0 h1 w' t'
  have c2 := fun w' => rfmt_b n h0 h1 w'
  have c3 := fun w' t' => xfmtF_b n h0 h1 w' t'
  have c4 := fun w' => rfmtF_b n h0 h1 w'
  generalize strOfNums (fmt n) = S at *
  generalize strOfNums (fmtF n) = T at *
  clear hn h0 h1
  go_enter Tryd.func4, Tryd.ntmps4
  go_wp2_with (first
    | (go_at_call 11; refine Calls.mono (gw_at (c1 _ (Tb.to hT (by repeat (first | with_reducible exact Below.refl _ _ | with_reducible assumption | refine bgw ?_ (by first | (simp; done) | (simp; omega) | omega) _ | refine Below.setCell ?_ (by first | exact Nat.le_of_not_lt (by assumption) | (simp; done) | (simp; omega) | omega) _ | refine Below.alloc ?_ (by first | (simp; done) | (simp; omega) | omega) _ | refine Below.drew ?_))))) ?_; rintro e w1 ⟨rfl, q, rfl⟩)
    | (go_at_call 18; refine Calls.mono (gw_at (c2 _)) ?_; rintro e w1 ⟨rfl, q, rfl⟩)
    | (go_at_call 13; refine Calls.mono (gw_at (c3 _ (Tb.to hT (by repeat (first | with_reducible exact Below.refl _ _ | with_reducible assumption | refine bgw ?_ (by first | (simp; done) | (simp; omega) | omega) _ | refine Below.setCell ?_ (by first | exact Nat.le_of_not_lt (by assumption) | (simp; done) | (simp; omega) | omega) _ | refine Below.alloc ?_ (by first | (simp; done) | (simp; omega) | omega) _ | refine Below.drew ?_))))) ?_; rintro e w1 ⟨rfl, q, rfl⟩)
    | (go_at_call 19; refine Calls.mono (gw_at (c4 _)) ?_; rintro e w1 ⟨rfl, q, rfl⟩)
    | (go_at_call 9; refine Calls.mono (gw_at (example8_b _ (Tb.to hT (by repeat (first | with_reducible exact Below.refl _ _ | with_reducible assumption | refine bgw ?_ (by first | (simp; done) | (simp; omega) | omega) _ | refine Below.setCell ?_ (by first | exact Nat.le_of_not_lt (by assumption) | (simp; done) | (simp; omega) | omega) _ | refine Below.alloc ?_ (by first | (simp; done) | (simp; omega) | omega) _ | refine Below.drew ?_))))) ?_; rintro e w1 ⟨rfl, q, rfl⟩))
  go_ret
  exact ⟨rfl, (by repeat (first | with_reducible exact Below.refl _ _ | with_reducible assumption | refine bgw ?_ (by first | (simp; done) | (simp; omega) | omega) _ | refine Below.setCell ?_ (by first | exact Nat.le_of_not_lt (by assumption) | (simp; done) | (simp; omega) | omega) _ | refine Below.alloc ?_ (by first | (simp; done) | (simp; omega) | omega) _ | refine Below.drew ?_))⟩

set_option maxHeartbeats 1000000 in
theorem walk_FormatParseNumbers (s : ByteArray) (w : World) (hT : Tb w) : Calls Tryd.prog 5 #[.string s] w fun e w' => e = .returned (.bool true) ∧ Below w.heap.size w w' := by
  by_cases hl : 200 < s.size
  focus
    have hl' : (200 : Int) < (s.size : Int) := by omega
    go_enter Tryd.func5, Tryd.ntmps5
    go_wp2_with (go_at_call 9; refine Calls.mono (gw_at (example8_b _ (Tb.to hT (by repeat (first | with_reducible exact Below.refl _ _ | with_reducible assumption | refine bgw ?_ (by first | (simp; done) | (simp; omega) | omega) _ | refine Below.setCell ?_ (by first | exact Nat.le_of_not_lt (by assumption) | (simp; done) | (simp; omega) | omega) _ | refine Below.alloc ?_ (by first | (simp; done) | (simp; omega) | omega) _ | refine Below.drew ?_))))) ?_; rintro e w1 ⟨rfl, q, rfl⟩)
    go_ret
    exact ⟨rfl, (by repeat (first | with_reducible exact Below.refl _ _ | with_reducible assumption | refine bgw ?_ (by first | (simp; done) | (simp; omega) | omega) _ | refine Below.setCell ?_ (by first | exact Nat.le_of_not_lt (by assumption) | (simp; done) | (simp; omega) | omega) _ | refine Below.alloc ?_ (by first | (simp; done) | (simp; omega) | omega) _ | refine Below.drew ?_))⟩
  have hl' : ¬ (200 : Int) < (s.size : Int) := by omega
  have hB := nums_isB s
  have hL : (nums s).length ≤ 1000000 := by rw [nums_length]; omega
  have c1 := fun w' => xprs_b (nums s) hB hL w'
  have c2 := fun w' => rprs_b (nums s) hB hL w'
  have c3 := fun w' => xprsF_b (nums s) hB hL w'
  have c4 := fun w' => rprsF_b (nums s) hB hL w'
  rw [of_nums] at c1 c2 c3 c4
  generalize prs 4611686018427387904 (nums s) = r1 at *
  generalize prsF (nums s) = r2 at *
  obtain ⟨a1, b1⟩ := r1
  obtain ⟨a2, b2⟩ := r2
  dsimp only at c1 c2 c3 c4
  clear hB hL hl
  go_enter Tryd.func5, Tryd.ntmps5
  go_wp2_with (first
    | (go_at_call 10; refine Calls.mono (gw_at (c1 _)) ?_; rintro e w1 ⟨rfl, q, rfl⟩)
    | (go_at_call 20; refine Calls.mono (gw_at (c2 _)) ?_; rintro e w1 ⟨rfl, q, rfl⟩)
    | (go_at_call 12; refine Calls.mono (gw_at (c3 _)) ?_; rintro e w1 ⟨rfl, q, rfl⟩)
    | (go_at_call 21; refine Calls.mono (gw_at (c4 _)) ?_; rintro e w1 ⟨rfl, q, rfl⟩)
    | (go_at_call 9; refine Calls.mono (gw_at (example8_b _ (Tb.to hT (by repeat (first | with_reducible exact Below.refl _ _ | with_reducible assumption | refine bgw ?_ (by first | (simp; done) | (simp; omega) | omega) _ | refine Below.setCell ?_ (by first | exact Nat.le_of_not_lt (by assumption) | (simp; done) | (simp; omega) | omega) _ | refine Below.alloc ?_ (by first | (simp; done) | (simp; omega) | omega) _ | refine Below.drew ?_))))) ?_; rintro e w1 ⟨rfl, q, rfl⟩))
  go_ret
  exact ⟨rfl, (by repeat (first | with_reducible exact Below.refl _ _ | with_reducible assumption | refine bgw ?_ (by first | (simp; done) | (simp; omega) | omega) _ | refine Below.setCell ?_ (by first | exact Nat.le_of_not_lt (by assumption) | (simp; done) | (simp; omega) | omega) _ | refine Below.alloc ?_ (by first | (simp; done) | (simp; omega) | omega) _ | refine Below.drew ?_))⟩

end Go.Proofs.YtdlnidefjdjocaaDoor
