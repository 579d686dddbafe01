/- The walk of chapter 8's statement of split lines: it returns true for every input, and nothing that existed has changed. No conditions. -/
import Derived.Test.YtdlnidefjdjocaaDoorFixFM
set_option linter.unusedVariables false
namespace Go.Proofs.YtdlnidefjdjocaaDoor
open Go.RowKit Fm

theorem str_last {bs : List Int} {x : Int} (hB : isB bs) (h : bs.getLast? = some x) : 0 < bs.length ∧ ∀ h, (((strOfNums bs)[bs.length - 1]'h).toNat : Int) = x := by
  have hne : bs ≠ [] := by intro e; rw [e] at h; simp at h
  rw [List.getLast?_eq_some_getLast hne] at h
  refine ⟨List.length_pos_iff.2 hne, fun h' => ?_⟩
  rw [str_idx hB _ h']
  have := Option.some.inj h
  rw [List.getLast_eq_getElem] at this
  exact this

set_option maxHeartbeats 4000000 in
theorem walk_FormatSplitLines (s : ByteArray) (w : World) (hT : Tb w) : Calls Tryd.prog 8 #[.string s] w fun e w' => e = .returned (.bool true) ∧ Below w.heap.size w w' := by
  by_cases h1 : 300 < s.size
  focus
    have h1' : (300 : Int) < (s.size : Int) := by omega
    go_enter Tryd.func8, Tryd.ntmps8
    go_wp2_with (go_at_call 9; refine Calls.mono (gw_at (example8_b _ (Tb.to hT (by repeat (first | with_reducible exact Below.refl _ _ | with_reducible assumption | refine bgw ?_ (by first | (simp; done) | (simp; omega) | omega) _ | refine Below.setCell ?_ (by first | exact Nat.le_of_not_lt (by assumption) | (simp; done) | (simp; omega) | omega) _ | refine Below.alloc ?_ (by first | (simp; done) | (simp; omega) | omega) _ | refine Below.drew ?_))))) ?_; rintro e w1 ⟨rfl, q, rfl⟩)
    go_ret
    exact ⟨rfl, (by repeat (first | with_reducible exact Below.refl _ _ | with_reducible assumption | refine bgw ?_ (by first | (simp; done) | (simp; omega) | omega) _ | refine Below.setCell ?_ (by first | exact Nat.le_of_not_lt (by assumption) | (simp; done) | (simp; omega) | omega) _ | refine Below.alloc ?_ (by first | (simp; done) | (simp; omega) | omega) _ | refine Below.drew ?_))⟩
  have h1' : ¬ (300 : Int) < (s.size : Int) := by omega
  have hB := nums_isB s
  have hL : (nums s).length ≤ 1000000 := by rw [nums_length]; omega
  have c1 := fun w' => row_strs (xlines_b (nums s) hB hL w')
  rw [of_nums] at c1
  cases hF : spl (nums s) [] []
  focus
    have hr : lines (nums s) = ([], 3) := by unfold lines; rw [hF]
    rw [hr] at c1
    obtain ⟨x, hx, hx10⟩ := spl_none _ _ _ hF (by simp)
    rw [List.nil_append] at hx
    obtain ⟨g1, g2⟩ := str_last hB hx
    rw [of_nums] at g2
    simp only [nums_length] at g1 g2
    have hxb : (x != 10) = true := by simp [hx10]
    have hem : s.toList.isEmpty = false := by
      rw [← of_nums s, str_list, List.isEmpty_eq_false_iff]
      intro e; rw [List.map_eq_nil_iff] at e
      rw [e] at hx; simp at hx
    obtain ⟨L, hL'⟩ : ∃ L, s.size = L + 1 := ⟨s.size - 1, by omega⟩
    have g3 : ∀ h, ((s[L]'h).toNat : Int) = x := fun h => by
      have := g2 (by omega)
      have e : s.size - 1 = L := by omega
      simp only [e] at this
      exact this
    have h300 : L < 300 := by omega
    clear g1 g2 hr hF hx hx10 hB hL h1 h1'
    have h1' : ¬ (300 : Int) < (L : Int) + 1 := by omega
    simp only [List.length_nil] at c1
    go_enter Tryd.func8, Tryd.ntmps8
    go_wp2_with (first
      | (go_at_call 23; refine Calls.mono (gw_ex (c1 _)) ?_; rintro e w1 ⟨⟨A1, ca1, rfl, s1⟩, q1, rfl⟩)
      | (go_at_call 9; refine Calls.mono (gw_at (example8_b _ (Tb.to hT (by repeat (first | with_reducible exact Below.refl _ _ | with_reducible assumption | refine bgw ?_ (by first | (simp; done) | (simp; omega) | omega) _ | refine Below.setCell ?_ (by first | exact Nat.le_of_not_lt (by assumption) | (simp; done) | (simp; omega) | omega) _ | refine Below.alloc ?_ (by first | (simp; done) | (simp; omega) | omega) _ | refine Below.drew ?_))))) ?_; rintro e w1 ⟨rfl, q, rfl⟩))
    go_ret
    exact ⟨rfl, (by repeat (first | with_reducible exact Below.refl _ _ | with_reducible assumption | refine bgw ?_ (by first | (simp; done) | (simp; omega) | omega) _ | refine Below.setCell ?_ (by first | exact Nat.le_of_not_lt (by assumption) | (simp; done) | (simp; omega) | omega) _ | refine Below.alloc ?_ (by first | (simp; done) | (simp; omega) | omega) _ | refine Below.drew ?_))⟩
  rename_i m0
  obtain ⟨m, hm0, hglue, hfeed⟩ := spl_some _ _ _ _ hF (by simp)
  rw [List.nil_append] at hm0 hglue
  subst hm0
  have hr : lines (nums s) = (m0, 0) := by unfold lines; rw [hF]
  rw [hr] at c1
  have hml : m0.length ≤ 300 := by have := spl_len _ _ _ _ hF; simp at this; omega
  have hmB : ∀ y ∈ m0, isB y := fun y hy x hx => by
    have : ∀ (m : List (List Int)), y ∈ m → x ∈ glue m := fun m => by
      induction m with
      | nil => intro h; cases h
      | cons a r ih =>
        intro h
        rcases List.mem_cons.1 h with rfl | h
        · simp [glue, hx]
        · simp [glue, ih h]
    exact hB x (hglue ▸ this m0 hy)
  have hmL : ∀ y ∈ m0, y.length ≤ 300 := fun y hy => by
    have : ∀ (m : List (List Int)), y ∈ m → y.length ≤ (glue m).length := fun m => by
      induction m with
      | nil => intro h; cases h
      | cons a r ih =>
        intro h
        rcases List.mem_cons.1 h with rfl | h
        · simp [glue]
        · have := ih h; simp [glue]; omega
    have := this m0 hy
    rw [hglue, nums_length] at this; omega
  have hG0 : strOfNums (glue (m0.take 0)) = { data := #[] } := rfl
  have hG1 : ∀ k (h : k < m0.length), strOfNums (glue (m0.take (k + 1))) = strOfNums (glue (m0.take k)) ++ strOfNums m0[k] ++ { data := #[10] } := fun k h => by
    rw [glue_succ h, show ({ data := #[10] } : ByteArray) = strOfNums [10] from rfl, str_append, str_append]
  have hGe : strOfNums (glue (m0.take m0.length)) = s := by rw [List.take_length, hglue, of_nums]
  have hGs : ∀ k, (strOfNums (glue (m0.take k))).size ≤ 300 := fun k => by
    have h := glue_len m0 k
    rw [hglue, nums_length] at h
    rw [strOfNums_size]; omega
  obtain ⟨G, hG⟩ : ∃ G : Nat → ByteArray, ∀ k, strOfNums (glue (m0.take k)) = G k := ⟨_, fun _ => rfl⟩
  simp only [hG] at hG0 hG1 hGe hGs
  clear hG hr hF hglue hB hL
  go_enter Tryd.func8, Tryd.ntmps8
  go_wp2_with (first
    | (go_at_call 23; refine Calls.mono (gw_ex (c1 _)) ?_; rintro e w1 ⟨⟨A1, ca1, rfl, s1⟩, q1, rfl⟩))
  refine wp_named ?_
  intro W hW
  have hbW : Below w.heap.size w W := by rw [hW]; exact (by repeat (first | with_reducible exact Below.refl _ _ | with_reducible assumption | refine bgw ?_ (by first | (simp; done) | (simp; omega) | omega) _ | refine Below.setCell ?_ (by first | exact Nat.le_of_not_lt (by assumption) | (simp; done) | (simp; omega) | omega) _ | refine Below.alloc ?_ (by first | (simp; done) | (simp; omega) | omega) _ | refine Below.drew ?_))
  have hs1 : Strs W A1 (strs m0) := by rw [hW]; exact s1
  clear hW s1 c1
  go_loopw [5, 6] (fun t i wr => ∃ k : Nat, k ≤ m0.length ∧ i = .int .i64 k ∧ t = .string (G k) ∧ Below W.heap.size W wr)
    (fun _ i _ => (m0.length - intOf i).toNat)
  case atStart => exact ⟨0, by omega, rfl, by rw [hG0], (by repeat (first | with_reducible exact Below.refl _ _ | with_reducible assumption | refine bgw ?_ (by first | (simp; done) | (simp; omega) | omega) _ | refine Below.setCell ?_ (by first | exact Nat.le_of_not_lt (by assumption) | (simp; done) | (simp; omega) | omega) _ | refine Below.alloc ?_ (by first | (simp; done) | (simp; omega) | omega) _ | refine Below.drew ?_))⟩
  case round =>
    obtain ⟨k, hk, rfl, rfl, hbw⟩ := hrel
    have hsz := hbw.size
    have hbw0 : Below w.heap.size w wr := Below.trans hbW (hbw.mono hbW.size)
    by_cases hlt : k < m0.length
    · have i0 : (0 : Int) ≤ (k : Int) := by omega
      have i1 : (k : Int) < (m0.length : Int) := by omega
      obtain ⟨b1, off1, rfl, hce⟩ := Strs.open (hs1.to hbw) (by rw [strs_length]; omega)
      have d1 := hce k (by rw [strs_length]; exact hlt)
      have o1 := older_of_cell d1
      have hgk := hG1 k hlt
      have hgs := hGs k
      have hyB := hmB _ (List.getElem_mem hlt)
      have hyL := hmL _ (List.getElem_mem hlt)
      have hyF := hfeed _ (List.getElem_mem hlt)
      rw [show (strs m0)[k]'(by rw [strs_length]; exact hlt) = strOfNums m0[k] from by simp [strs]] at d1
      clear hce hG1 hGs hmB hmL hfeed hG0
      generalize m0[k] = y at *
      have hys : (strOfNums y).size = y.length := strOfNums_size y
      have hix : ∀ k (h : k < (strOfNums y).size), (((strOfNums y)[k]'h).toNat : Int) = y[k]'(by rw [hys] at h; exact h) := fun k h => str_idx hyB k h
      generalize strOfNums y = Y at *
      generalize G k = X at *
      have hz1 : ({ data := #[10] } : ByteArray).size = 1 := rfl
      have hq1 : ¬ 9223372036854775807 < X.size + Y.size := by omega
      have hq2 : ¬ 9223372036854775807 < X.size + y.length := by omega
      have hq3 : ¬ 9223372036854775807 < X.size + y.length + ({ data := #[10] } : ByteArray).size := by omega
      have hq4 : ¬ 9223372036854775807 < (X ++ Y).size + ({ data := #[10] } : ByteArray).size := by rw [ByteArray.size_append]; omega
      generalize wr = V at *
      go_wp2_with fail
      go_loopw [7] (fun j wx => ∃ p : Nat, p ≤ y.length ∧ j = .int .i64 p ∧ wx = V)
        (fun j _ => (y.length - intOf j).toNat)
      case atStart => exact ⟨0, by omega, rfl, rfl⟩
      case round =>
        obtain ⟨p, hp, rfl, rfl⟩ := hrel
        by_cases hpt : p < y.length
        · have p0 : (0 : Int) ≤ (p : Int) := by omega
          have p1 : (p : Int) < (y.length : Int) := by omega
          have hx := hix p (by omega)
          have hxF : (y[p] == 10) = false := by rw [beq_eq_false_iff_ne]; exact hyF _ (List.getElem_mem hpt)
          clear hix hyF
          generalize y[p] = x at *
          go_wp2_with fail
          exact ⟨⟨p + 1, by omega, by go_num, by first | trivial | rfl⟩, by (try go_num); simp [intOf]; (try omega)⟩
        · obtain rfl : p = y.length := by omega
          have p1 : ¬ (y.length : Int) < (y.length : Int) := by omega
          clear hix hyF
          go_wp2_with fail
          exact ⟨⟨k + 1, by omega, by go_num, by rw [hgk], hbw⟩, by (try go_num); simp [intOf]; (try omega)⟩
    · obtain rfl : k = m0.length := by omega
      have i1 : ¬ (m0.length : Int) < (m0.length : Int) := by omega
      rw [hGe]
      have hszW := hbW.size
      clear hG1 hGs hmB hmL hfeed hG0 hGe
      go_wp2_with (go_at_call 9; refine Calls.mono (gw_at (example8_b _ (Tb.to hT (by repeat (first | with_reducible exact Below.refl _ _ | with_reducible assumption | refine bgw ?_ (by first | (simp; done) | (simp; omega) | omega) _ | refine Below.setCell ?_ (by first | exact Nat.le_of_not_lt (by assumption) | (simp; done) | (simp; omega) | omega) _ | refine Below.alloc ?_ (by first | (simp; done) | (simp; omega) | omega) _ | refine Below.drew ?_))))) ?_; rintro e w1 ⟨rfl, q, rfl⟩)
      go_ret
      exact ⟨rfl, (by repeat (first | with_reducible exact Below.refl _ _ | with_reducible assumption | refine bgw ?_ (by first | (simp; done) | (simp; omega) | omega) _ | refine Below.setCell ?_ (by first | exact Nat.le_of_not_lt (by assumption) | (simp; done) | (simp; omega) | omega) _ | refine Below.alloc ?_ (by first | (simp; done) | (simp; omega) | omega) _ | refine Below.drew ?_))⟩

end Go.Proofs.YtdlnidefjdjocaaDoor
