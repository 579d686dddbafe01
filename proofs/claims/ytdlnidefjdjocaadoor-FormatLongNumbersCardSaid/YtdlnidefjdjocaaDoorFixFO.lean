/- The walk of chapter 8's statement of long numbers: it returns true for every input, and nothing that existed has changed. No conditions. -/
import Derived.Test.YtdlnidefjdjocaaDoorFixFL
set_option linter.unusedVariables false
namespace Go.Proofs.YtdlnidefjdjocaaDoor
open Go.RowKit Fm

theorem digit9_at (d : Nat) (h : d < 9) (w : World) : (Instr.slice 9 (.string { data := #[49, 50, 51, 52, 53, 54, 55, 56, 57] }) (some (.int .u8 (d : Int))) (some (.int .u8 ((d : Int) + 1))) none).run Tryd.prog w = .ok (.string (strOfNums [49 + (d : Int)])) w := by
  rcases (by omega : d = 0 ∨ d = 1 ∨ d = 2 ∨ d = 3 ∨ d = 4 ∨ d = 5 ∨ d = 6 ∨ d = 7 ∨ d = 8) with rfl | rfl | rfl | rfl | rfl | rfl | rfl | rfl | rfl
  all_goals kernel_rfl

theorem long_c (S : List Int) (hB : isB S) (hl : S.length ≤ 100) (hI : isInt S = true) (hb : 10000000000000000000 ≤ (sval S).natAbs) (Y : ByteArray) (hY : strOfNums S = Y) :
    (∀ w, Calls Tryd.prog 10 #[.string Y] w fun e w' => e = .returned (.tuple #[.int .i64 0, .int .i64 6]) ∧ Below w.heap.size w w') ∧
    (∀ w, Calls Tryd.prog 12 #[.string (Y ++ { data := #[117] })] w fun e w' => e = .returned (.tuple #[.int .i64 0, .int .i64 6]) ∧ Below w.heap.size w w') ∧
    (∀ w, Calls Tryd.prog 10 #[.string (Y ++ { data := #[120] })] w fun e w' => e = .returned (.tuple #[.int .i64 0, .int .i64 3]) ∧ Below w.heap.size w w') ∧
    (∀ w, Calls Tryd.prog 10 #[.string ({ data := #[48] } ++ Y)] w fun e w' => e = .returned (.tuple #[.int .i64 0, .int .i64 3]) ∧ Below w.heap.size w w') ∧ Y.size ≤ 100 := by
  subst hY
  have hne : S ≠ [] := by intro e; rw [e] at hI; revert hI; decide
  have b1 : ∀ x : Int, 0 ≤ x → x < 256 → isB [x] := fun x h0 h1 y hy => by simp at hy; subst hy; exact ⟨h0, h1⟩
  refine ⟨fun w => ?_, fun w => ?_, fun w => ?_, fun w => ?_, by rw [strOfNums_size]; exact hl⟩
  · have := xprs_b S hB (by omega) w
    rw [prs_long hI hb (by decide)] at this; exact this
  · have := xprsF_b (S ++ [117]) (isB_append hB (b1 117 (by omega) (by omega))) (by simp; omega) w
    rw [prsF_long hI hb, ← str_append] at this; exact this
  · have := xprs_b (S ++ [120]) (isB_append hB (b1 120 (by omega) (by omega))) (by simp; omega) w
    rw [prs_bad (isInt_snoc hne), ← str_append] at this; exact this
  · have := xprs_b (48 :: S) (isB_append (b1 48 (by omega) (by omega)) hB) (by simp; omega) w
    rw [prs_bad (isInt_zero hne), show (48 :: S : List Int) = [48] ++ S from rfl, ← str_append] at this; exact this

set_option maxHeartbeats 4000000 in
theorem walk_FormatLongNumbers (digit n : Int) (negative : Bool) (hd : IntKind.u8.has digit) (hn : IntKind.u8.has n) (w : World) (hT : Tb w) : Calls Tryd.prog 7 #[.int .u8 digit, .int .u8 n, .bool negative] w fun e w' => e = .returned (.bool true) ∧ Below w.heap.size w w' := by
  have hd0 : 0 ≤ digit := by have := hd.1; simpa [IntKind.min, IntKind.signed] using this
  have hn0 : 0 ≤ n := by have := hn.1; simpa [IntKind.min, IntKind.signed] using this
  obtain ⟨d, hdd⟩ : ∃ d : Nat, digit.tmod 9 = d := ⟨(digit.tmod 9).toNat, by rw [Int.tmod_eq_emod_of_nonneg hd0]; omega⟩
  obtain ⟨e, hee⟩ : ∃ e : Nat, n.tmod 60 = e := ⟨(n.tmod 60).toNat, by rw [Int.tmod_eq_emod_of_nonneg hn0]; omega⟩
  have hd9 : d < 9 := by rw [Int.tmod_eq_emod_of_nonneg hd0] at hdd; omega
  have he60 : e < 60 := by rw [Int.tmod_eq_emod_of_nonneg hn0] at hee; omega
  have hdat := digit9_at d hd9
  have hx0 : (49 : Int) ≤ 49 + (d : Int) := by omega
  have hx1 : 49 + (d : Int) ≤ 57 := by omega
  have hd' : (0 : Int) ≤ (d : Int) := by omega
  have hd9' : (d : Int) < 9 := by omega
  generalize 49 + (d : Int) = x at *
  obtain ⟨K, hK⟩ : ∃ K : Nat, K = 20 + e := ⟨_, rfl⟩
  have hKi : (20 : Int) + (e : Int) = (K : Int) := by omega
  have hX0 : strOfNums (List.replicate 0 x) = { data := #[] } := rfl
  have hX1 : ∀ k, strOfNums (List.replicate (k + 1) x) = strOfNums (List.replicate k x) ++ strOfNums [x] := fun k => by
    rw [List.replicate_succ', str_append]
  have hXs : ∀ k, (strOfNums (List.replicate k x)).size = k := fun k => by rw [strOfNums_size, List.length_replicate]
  have hbx : ∀ k, isB (List.replicate k x) := fun k y hy => by rw [List.eq_of_mem_replicate hy]; omega
  have hb45 : isB (45 :: List.replicate K x) := fun y hy => by
    rcases List.mem_cons.1 hy with rfl | hy
    · omega
    · exact hbx K y hy
  obtain ⟨p1, p2⟩ := long_int hx0 hx1 (k := K) (by omega) _ (.inl rfl)
  obtain ⟨m1, m2⟩ := long_int hx0 hx1 (k := K) (by omega) _ (.inr rfl)
  have hY : strOfNums (45 :: List.replicate K x) = { data := #[45] } ++ strOfNums (List.replicate K x) := by rw [show ({ data := #[45] } : ByteArray) = strOfNums [45] from rfl, str_append]; rfl
  obtain ⟨Y, hY2⟩ : ∃ Y, strOfNums (45 :: List.replicate K x) = Y := ⟨_, rfl⟩
  have cp := long_c _ (hbx K) (by rw [List.length_replicate]; omega) p1 p2 _ rfl
  have cm := long_c _ hb45 (by simp; omega) m1 m2 Y hY2
  have hY3 : { data := #[45] } ++ strOfNums (List.replicate K x) = Y := by rw [← hY, hY2]
  have hone : (strOfNums [x]).size = 1 := rfl
  generalize strOfNums [x] = D at *
  clear hY hY2 m1 m2 p1 p2 hb45 hbx
  obtain ⟨X, hX⟩ : ∃ X : Nat → ByteArray, ∀ k, strOfNums (List.replicate k x) = X k := ⟨_, fun _ => rfl⟩
  simp only [hX] at hX0 hX1 hXs cp hY3
  have hK80 : K ≤ 80 := by omega
  clear hX hd hn hx0 hx1 hK
  go_enter Tryd.func7, Tryd.ntmps7
  go_wp2_with fail
  go_loopw [8, 9] (fun s i wr => ∃ k : Nat, k ≤ K ∧ i = .int .i64 k ∧ s = .string (X k) ∧ Below w.heap.size w wr)
    (fun _ i _ => (K - intOf i).toNat)
  case atStart => exact ⟨0, by omega, rfl, by rw [hX0], (by repeat (first | with_reducible exact Below.refl _ _ | with_reducible assumption | refine bgw ?_ (by first | (simp; done) | (simp; omega) | omega) _ | refine Below.setCell ?_ (by first | exact Nat.le_of_not_lt (by assumption) | (simp; done) | (simp; omega) | omega) _ | refine Below.alloc ?_ (by first | (simp; done) | (simp; omega) | omega) _ | refine Below.drew ?_))⟩
  case round =>
    obtain ⟨k, hk, rfl, rfl, hbw⟩ := hrel
    have hszw := hbw.size
    by_cases hlt : k < K
    · have i0 : (0 : Int) ≤ (k : Int) := by omega
      have i1 : (k : Int) < (K : Int) := by omega
      have hs := hXs k
      have h1 := hX1 k
      have hz : ¬ 9223372036854775807 < (X k).size + D.size := by omega
      clear hX1 hXs cp cm hX0 hY3
      generalize X k = Z at *
      clear hs
      go_wp2_with fail
      exact ⟨⟨k + 1, by omega, by go_num, by rw [h1], (by repeat (first | with_reducible exact Below.refl _ _ | with_reducible assumption | refine bgw ?_ (by first | (simp; done) | (simp; omega) | omega) _ | refine Below.setCell ?_ (by first | exact Nat.le_of_not_lt (by assumption) | (simp; done) | (simp; omega) | omega) _ | refine Below.alloc ?_ (by first | (simp; done) | (simp; omega) | omega) _ | refine Below.drew ?_))⟩, by (try go_num); simp [intOf]; (try omega)⟩
    · obtain rfl : k = K := by omega
      have i1 : ¬ (k : Int) < (k : Int) := by omega
      have hsz := hXs k
      clear hX1 hXs hX0
      generalize X k = Z at *
      have z1 : ({ data := #[117] } : ByteArray).size = 1 := rfl
      have z2 : ({ data := #[120] } : ByteArray).size = 1 := rfl
      have z3 : ({ data := #[48] } : ByteArray).size = 1 := rfl
      have z4 : ({ data := #[45] } : ByteArray).size = 1 := rfl
      cases negative
      · obtain ⟨c1, c2, c3, c4, c5⟩ := cp
        have y1 : ¬ 9223372036854775807 < Z.size + ({ data := #[117] } : ByteArray).size := by omega
        have y2 : ¬ 9223372036854775807 < Z.size + ({ data := #[120] } : ByteArray).size := by omega
        have y3 : ¬ 9223372036854775807 < ({ data := #[48] } : ByteArray).size + Z.size := by omega
        clear cm hY3 hsz c5 z1 z2 z3 z4
        go_wp2_with (first
          | (go_at_call 12; refine Calls.mono (gw_at (c2 _)) ?_; rintro e w1 ⟨rfl, q, rfl⟩)
          | (go_at_call 10; (with_reducible show Calls _ _ (#[Value.string Z]) _ _); refine Calls.mono (gw_at (c1 _)) ?_; rintro e w1 ⟨rfl, q, rfl⟩)
          | (go_at_call 10; (with_reducible show Calls _ _ (#[Value.string (Z ++ _)]) _ _); refine Calls.mono (gw_at (c3 _)) ?_; rintro e w1 ⟨rfl, q, rfl⟩)
          | (go_at_call 10; refine Calls.mono (gw_at (c4 _)) ?_; rintro e w1 ⟨rfl, q, rfl⟩)
          | (go_at_call 9; refine Calls.mono (gw_at (example8_b _ (Tb.to hT (by repeat (first | with_reducible exact Below.refl _ _ | with_reducible assumption | refine bgw ?_ (by first | (simp; done) | (simp; omega) | omega) _ | refine Below.setCell ?_ (by first | exact Nat.le_of_not_lt (by assumption) | (simp; done) | (simp; omega) | omega) _ | refine Below.alloc ?_ (by first | (simp; done) | (simp; omega) | omega) _ | refine Below.drew ?_))))) ?_; rintro e w1 ⟨rfl, q, rfl⟩))
        go_ret
        exact ⟨rfl, (by repeat (first | with_reducible exact Below.refl _ _ | with_reducible assumption | refine bgw ?_ (by first | (simp; done) | (simp; omega) | omega) _ | refine Below.setCell ?_ (by first | exact Nat.le_of_not_lt (by assumption) | (simp; done) | (simp; omega) | omega) _ | refine Below.alloc ?_ (by first | (simp; done) | (simp; omega) | omega) _ | refine Below.drew ?_))⟩
      · obtain ⟨c1, c2, c3, c4, c5⟩ := cm
        have y0 : ¬ 9223372036854775807 < ({ data := #[45] } : ByteArray).size + Z.size := by omega
        have y1 : ¬ 9223372036854775807 < Y.size + ({ data := #[117] } : ByteArray).size := by omega
        have y2 : ¬ 9223372036854775807 < Y.size + ({ data := #[120] } : ByteArray).size := by omega
        have y3 : ¬ 9223372036854775807 < ({ data := #[48] } : ByteArray).size + Y.size := by omega
        clear cp hsz c5 z1 z2 z3 z4
        go_wp2_with (first
          | (go_at_call 12; refine Calls.mono (gw_at (c2 _)) ?_; rintro e w1 ⟨rfl, q, rfl⟩)
          | (go_at_call 10; (with_reducible show Calls _ _ (#[Value.string Y]) _ _); refine Calls.mono (gw_at (c1 _)) ?_; rintro e w1 ⟨rfl, q, rfl⟩)
          | (go_at_call 10; (with_reducible show Calls _ _ (#[Value.string (Y ++ _)]) _ _); refine Calls.mono (gw_at (c3 _)) ?_; rintro e w1 ⟨rfl, q, rfl⟩)
          | (go_at_call 10; refine Calls.mono (gw_at (c4 _)) ?_; rintro e w1 ⟨rfl, q, rfl⟩)
          | (go_at_call 9; refine Calls.mono (gw_at (example8_b _ (Tb.to hT (by repeat (first | with_reducible exact Below.refl _ _ | with_reducible assumption | refine bgw ?_ (by first | (simp; done) | (simp; omega) | omega) _ | refine Below.setCell ?_ (by first | exact Nat.le_of_not_lt (by assumption) | (simp; done) | (simp; omega) | omega) _ | refine Below.alloc ?_ (by first | (simp; done) | (simp; omega) | omega) _ | refine Below.drew ?_))))) ?_; rintro e w1 ⟨rfl, q, rfl⟩))
        go_ret
        exact ⟨rfl, (by repeat (first | with_reducible exact Below.refl _ _ | with_reducible assumption | refine bgw ?_ (by first | (simp; done) | (simp; omega) | omega) _ | refine Below.setCell ?_ (by first | exact Nat.le_of_not_lt (by assumption) | (simp; done) | (simp; omega) | omega) _ | refine Below.alloc ?_ (by first | (simp; done) | (simp; omega) | omega) _ | refine Below.drew ?_))⟩

end Go.Proofs.YtdlnidefjdjocaaDoor
