/- Contracts of the reference of chapter 8. -/
import Derived.Test.YtdlnidefjdjocaaDoorChecked
import Derived.Test.YtdlnidefjdjocaaDoorFld
import Derived.Test.YtdlnidefjdjocaaDoorMix
import Derived.Test.YtdlnidefjdjocaaDoorFmL
import Derived.Test.YtdlnidefjdjocaaDoorFmS
set_option linter.unusedVariables false
namespace Go.Proofs.YtdlnidefjdjocaaDoor
open Go.RowKit Fm

theorem str_append (a b : List Int) : strOfNums a ++ strOfNums b = strOfNums (a ++ b) := by
  apply ByteArray.ext
  rw [ByteArray.data_append]
  simp [strOfNums]
theorem digit_at (d : Nat) (h : d < 10) (w : World) : (Instr.slice 9 (.string { data := #[48, 49, 50, 51, 52, 53, 54, 55, 56, 57] }) (some (.int .i64 (d : Int))) (some (.int .i64 ((d : Int) + 1))) none).run Tryd.prog w = .ok (.string (strOfNums [48 + (d : Int)])) w := by
  rcases (by omega : d = 0 ∨ d = 1 ∨ d = 2 ∨ d = 3 ∨ d = 4 ∨ d = 5 ∨ d = 6 ∨ d = 7 ∨ d = 8 ∨ d = 9) with rfl | rfl | rfl | rfl | rfl | rfl | rfl | rfl | rfl | rfl
  all_goals kernel_rfl
theorem tmod10_pos {m : Int} (h : 0 < m) : m.tmod 10 = ((m.natAbs % 10 : Nat) : Int) ∧ m.tdiv 10 = ((m.natAbs / 10 : Nat) : Int) := by
  rw [Int.tmod_eq_emod_of_nonneg (by omega), Int.tdiv_eq_ediv_of_nonneg (by omega)]; omega
theorem tmod10_neg {m : Int} (h : m < 0) : m.tmod 10 = -((m.natAbs % 10 : Nat) : Int) ∧ m.tdiv 10 = -((m.natAbs / 10 : Nat) : Int) := by
  obtain ⟨k, rfl⟩ : ∃ k : Nat, m = -(k : Int) := ⟨m.natAbs, by omega⟩
  rw [Int.neg_tmod, Int.neg_tdiv, Int.tmod_eq_emod_of_nonneg (by omega), Int.tdiv_eq_ediv_of_nonneg (by omega)]; omega

theorem rdig_b (n : Int) (h0 : -9223372036854775808 ≤ n) (h1 : n ≤ 9223372036854775807) (w : World) : Calls Tryd.prog 36 #[.int .i64 n] w fun e w' => e = .returned (.string (strOfNums (dg n.natAbs))) ∧ Below w.heap.size w w' := by
  have hln : (dg n.natAbs).length ≤ 20 := dg_len 20 _ (by rw [show (10 : Nat) ^ 20 = 100000000000000000000 from by decide]; omega)
  go_enter Tryd.func36, Tryd.ntmps36
  go_wp2_with fail
  go_loopw [0, 3] (fun nv s wr => ∃ (m : Int) (r : List Int), nv = .int .i64 m ∧ s = .string (strOfNums r) ∧ m.natAbs ≤ n.natAbs ∧ (0 ≤ n → 0 ≤ m) ∧ (n ≤ 0 → m ≤ 0) ∧ dg m.natAbs ++ r = dg n.natAbs ∧ Below w.heap.size w wr)
    (fun nv _ _ => (intOf nv).natAbs)
  case atStart => exact ⟨n, [], rfl, rfl, by omega, by omega, by omega, by simp, (by repeat (first | with_reducible exact Below.refl _ _ | with_reducible assumption | refine bgw ?_ (by first | (simp; done) | (simp; omega) | omega) _ | refine Below.setCell ?_ (by first | exact Nat.le_of_not_lt (by assumption) | (simp; done) | (simp; omega) | omega) _ | refine Below.alloc ?_ (by first | (simp; done) | (simp; omega) | omega) _ | refine Below.drew ?_))⟩
  case round =>
    obtain ⟨m, r, rfl, rfl, hm, hp, hq, hr, hbw⟩ := hrel
    have hsz := hbw.size
    by_cases hz : m = 0
    focus
      subst hz
      rw [show (0 : Int).natAbs = 0 from rfl, dg_zero, List.nil_append] at hr
      rw [hr]
      go_wp2_with fail
      go_ret
      exact ⟨rfl, (by repeat (first | with_reducible exact Below.refl _ _ | with_reducible assumption | refine bgw ?_ (by first | (simp; done) | (simp; omega) | omega) _ | refine Below.setCell ?_ (by first | exact Nat.le_of_not_lt (by assumption) | (simp; done) | (simp; omega) | omega) _ | refine Below.alloc ?_ (by first | (simp; done) | (simp; omega) | omega) _ | refine Below.drew ?_))⟩
    have hzb : (m == 0) = false := by rw [beq_eq_false_iff_ne]; exact hz
    have hdg := dg_pos (m := m.natAbs) (by omega)
    have hlt : m.natAbs % 10 < 10 := by omega
    have hrl : r.length ≤ 20 := by have := congrArg List.length hr; simp at this; omega
    have hss : ∀ x : Int, ¬ 9223372036854775807 < (strOfNums [x]).size + (strOfNums r).size := fun x => by rw [strOfNums_size, strOfNums_size]; simp; omega
    by_cases hs : 0 < m
    focus
      obtain ⟨e1, e2⟩ := tmod10_pos hs
      have hdl := digit_at (m.natAbs % 10) hlt
      have hdl2 : m.natAbs / 10 < m.natAbs := by omega
      have hdl3 : (m.natAbs / 10 : Nat) ≤ n.natAbs := by omega
      generalize m.natAbs % 10 = d at *
      have hd0 : (0 : Int) ≤ (d : Int) := by omega
      have hd1 : (d : Int) < 10 := by omega
      clear hz
      go_wp2_with fail
      refine ⟨⟨((m.natAbs / 10 : Nat) : Int), (48 + (d : Int)) :: r, by simp, by rw [str_append]; rfl, by omega, by omega, by omega, ?_, (by repeat (first | with_reducible exact Below.refl _ _ | with_reducible assumption | refine bgw ?_ (by first | (simp; done) | (simp; omega) | omega) _ | refine Below.setCell ?_ (by first | exact Nat.le_of_not_lt (by assumption) | (simp; done) | (simp; omega) | omega) _ | refine Below.alloc ?_ (by first | (simp; done) | (simp; omega) | omega) _ | refine Below.drew ?_))⟩, by simp [intOf]; omega⟩
      rw [← hr, hdg, Int.natAbs_natCast]; simp
    have hs' : m < 0 := by omega
    obtain ⟨e1, e2⟩ := tmod10_neg hs'
    have hdl := digit_at (m.natAbs % 10) hlt
    have hdl2 : m.natAbs / 10 < m.natAbs := by omega
    have hdl3 : (m.natAbs / 10 : Nat) ≤ n.natAbs := by omega
    generalize m.natAbs % 10 = d at *
    have hd0 : (0 : Int) ≤ (d : Int) := by omega
    have hd1 : (d : Int) < 10 := by omega
    clear hz
    by_cases hdz : d = 0
    focus
      subst hdz
      have hx0 : ({ data := #[48, 49, 50, 51, 52, 53, 54, 55, 56, 57] } : ByteArray).extract 0 1 = strOfNums [48] := by decide +kernel
      clear hdl
      go_wp2_with fail
      refine ⟨⟨-((m.natAbs / 10 : Nat) : Int), 48 :: r, by simp, by rw [str_append]; rfl, by omega, by omega, by omega, ?_, (by repeat (first | with_reducible exact Below.refl _ _ | with_reducible assumption | refine bgw ?_ (by first | (simp; done) | (simp; omega) | omega) _ | refine Below.setCell ?_ (by first | exact Nat.le_of_not_lt (by assumption) | (simp; done) | (simp; omega) | omega) _ | refine Below.alloc ?_ (by first | (simp; done) | (simp; omega) | omega) _ | refine Below.drew ?_))⟩, by simp [intOf]; omega⟩
      rw [← hr, hdg, Int.natAbs_neg, Int.natAbs_natCast]; simp
    have hd2 : -(d : Int) < 0 := by omega
    go_wp2_with fail
    refine ⟨⟨-((m.natAbs / 10 : Nat) : Int), (48 + (d : Int)) :: r, by simp, by rw [str_append]; rfl, by omega, by omega, by omega, ?_, (by repeat (first | with_reducible exact Below.refl _ _ | with_reducible assumption | refine bgw ?_ (by first | (simp; done) | (simp; omega) | omega) _ | refine Below.setCell ?_ (by first | exact Nat.le_of_not_lt (by assumption) | (simp; done) | (simp; omega) | omega) _ | refine Below.alloc ?_ (by first | (simp; done) | (simp; omega) | omega) _ | refine Below.drew ?_))⟩, by simp [intOf]; omega⟩
    rw [← hr, hdg, Int.natAbs_neg, Int.natAbs_natCast]; simp

theorem rfmt_b (n : Int) (h0 : -9223372036854775808 ≤ n) (h1 : n ≤ 9223372036854775807) (w : World) : Calls Tryd.prog 18 #[.int .i64 n] w fun e w' => e = .returned (.string (strOfNums (fmt n))) ∧ Below w.heap.size w w' := by
  have cd : ∀ w', Calls Tryd.prog 36 #[.int .i64 n] w' fun e w'' => e = .returned (.string (strOfNums (dg n.natAbs))) ∧ Below w'.heap.size w' w'' := fun w' => rdig_b n h0 h1 w'
  have hln : (dg n.natAbs).length ≤ 20 := dg_len 20 _ (by rw [show (10 : Nat) ^ 20 = 100000000000000000000 from by decide]; omega)
  unfold fmt
  by_cases hz : n = 0
  focus
    rw [if_pos hz]
    have hzb : (n == 0) = true := by rw [beq_iff_eq]; exact hz
    clear hz
    go_enter Tryd.func18, Tryd.ntmps18
    go_wp2_with fail
    go_ret
    exact ⟨rfl, (by repeat (first | with_reducible exact Below.refl _ _ | with_reducible assumption | refine bgw ?_ (by first | (simp; done) | (simp; omega) | omega) _ | refine Below.setCell ?_ (by first | exact Nat.le_of_not_lt (by assumption) | (simp; done) | (simp; omega) | omega) _ | refine Below.alloc ?_ (by first | (simp; done) | (simp; omega) | omega) _ | refine Below.drew ?_))⟩
  rw [if_neg hz]
  have hzb : (n == 0) = false := by rw [beq_eq_false_iff_ne]; exact hz
  clear hz
  by_cases hn : n < 0
  focus
    rw [if_pos hn]
    have e : strOfNums (45 :: dg n.natAbs) = { data := #[45] } ++ strOfNums (dg n.natAbs) := by rw [show ({ data := #[45] } : ByteArray) = strOfNums [45] from rfl, str_append]; rfl
    have hs : ¬ 9223372036854775807 < ({ data := #[45] } : ByteArray).size + (strOfNums (dg n.natAbs)).size := by rw [strOfNums_size, show ({ data := #[45] } : ByteArray).size = 1 from rfl]; omega
    rw [e]
    clear e h0 h1
    generalize strOfNums (dg n.natAbs) = D at *
    go_enter Tryd.func18, Tryd.ntmps18
    go_wp2_with (go_at_call 36; refine Calls.mono (gw_at (cd _)) ?_; rintro e w1 ⟨rfl, q, rfl⟩)
    go_ret
    exact ⟨rfl, (by repeat (first | with_reducible exact Below.refl _ _ | with_reducible assumption | refine bgw ?_ (by first | (simp; done) | (simp; omega) | omega) _ | refine Below.setCell ?_ (by first | exact Nat.le_of_not_lt (by assumption) | (simp; done) | (simp; omega) | omega) _ | refine Below.alloc ?_ (by first | (simp; done) | (simp; omega) | omega) _ | refine Below.drew ?_))⟩
  rw [if_neg hn]
  go_enter Tryd.func18, Tryd.ntmps18
  go_wp2_with (go_at_call 36; refine Calls.mono (gw_at (cd _)) ?_; rintro e w1 ⟨rfl, q, rfl⟩)
  go_ret
  exact ⟨rfl, (by repeat (first | with_reducible exact Below.refl _ _ | with_reducible assumption | refine bgw ?_ (by first | (simp; done) | (simp; omega) | omega) _ | refine Below.setCell ?_ (by first | exact Nat.le_of_not_lt (by assumption) | (simp; done) | (simp; omega) | omega) _ | refine Below.alloc ?_ (by first | (simp; done) | (simp; omega) | omega) _ | refine Below.drew ?_))⟩

end Go.Proofs.YtdlnidefjdjocaaDoor
