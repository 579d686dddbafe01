/- Contracts of the reference of chapter 8, continued: fixed-point numbers. -/
import Derived.Test.YtdlnidefjdjocaaDoorFixFP
import Derived.Test.YtdlnidefjdjocaaDoorFmT
set_option linter.unusedVariables false
namespace Go.Proofs.YtdlnidefjdjocaaDoor
open Go.RowKit Fm

theorem str_take {bs : List Int} (k : Nat) : (strOfNums bs).extract 0 k = strOfNums (bs.take k) := by
  apply ByteArray.ext
  rw [ByteArray.data_extract]
  simp only [strOfNums, List.map_take, List.extract_toArray, List.extract_eq_take_drop, List.drop_zero, Nat.sub_zero]
theorem str_part {bs : List Int} (i k : Nat) : (strOfNums bs).extract i k = strOfNums (prt bs i k) := by
  apply ByteArray.ext
  rw [ByteArray.data_extract]
  simp only [strOfNums, prt, List.map_take, List.map_drop, List.extract_toArray, List.extract_eq_take_drop]
theorem str_48 {bs : List Int} (hB : isB bs) : ((strOfNums bs).toList == [48]) = decide (bs = [48]) := by
  by_cases h : bs = [48]
  · subst h; decide +kernel
  · rw [decide_eq_false h, beq_eq_false_iff_ne, str_list]
    intro e
    refine h ?_
    cases bs with
    | nil => simp at e
    | cons x r =>
      simp only [List.map_cons, List.cons.injEq, List.map_eq_nil_iff] at e
      obtain ⟨e1, e2⟩ := e
      have hx := hB x (List.mem_cons_self ..)
      have := congrArg UInt8.toNat e1
      rw [UInt8.toNat_ofNat'] at this
      have h48 : (48 : UInt8).toNat = 48 := rfl
      rw [h48] at this
      rw [e2, show x = 48 from by omega]

set_option maxHeartbeats 1000000 in
theorem rrem_b (bs : List Int) (hI : isInt bs = true) (hB : isB bs) (hl : bs.length ≤ 1000000) (w : World) : Calls Tryd.prog 39 #[.string (strOfNums bs)] w fun e w' => e = .returned (.int .i64 ((val (body bs) % 65536 : Nat) : Int)) ∧ Below w.heap.size w w' := by
  have hend : val (body (bs.take bs.length)) = val (body bs) := by rw [List.take_length]
  obtain ⟨V, hV⟩ : ∃ V, val (body bs) = V := ⟨_, rfl⟩
  rw [hV] at hend
  rw [hV]
  have hat := fun k hk => int_at hI (k := k) hk
  clear hI hV
  have hsz : (strOfNums bs).size = bs.length := strOfNums_size bs
  have hix : ∀ k (h : k < (strOfNums bs).size), (((strOfNums bs)[k]'h).toNat : Int) = bs[k]'(by rw [hsz] at h; exact h) := fun k h => str_idx hB k h
  generalize strOfNums bs = T at *
  go_enter Tryd.func39, Tryd.ntmps39
  go_wp2_with fail
  go_loopw [3, 4] (fun n i wr => ∃ (k m : Nat), k ≤ bs.length ∧ i = .int .i64 k ∧ n = .int .i64 (m : Int) ∧ m = val (body (bs.take k)) % 65536 ∧ Below w.heap.size w wr)
    (fun _ i _ => (bs.length - intOf i).toNat)
  case atStart => exact ⟨0, 0, by omega, rfl, rfl, by simp [body, val], (by repeat (first | with_reducible exact Below.refl _ _ | with_reducible assumption | refine bgw ?_ (by first | (simp; done) | (simp; omega) | omega) _ | refine Below.setCell ?_ (by first | exact Nat.le_of_not_lt (by assumption) | (simp; done) | (simp; omega) | omega) _ | refine Below.alloc ?_ (by first | (simp; done) | (simp; omega) | omega) _ | refine Below.drew ?_))⟩
  case round =>
    obtain ⟨k, m, hk, rfl, rfl, hmv, hbw⟩ := hrel
    have hm : m < 65536 := by omega
    by_cases hlt : k < bs.length
    · have i0 : (0 : Int) ≤ (k : Int) := by omega
      have i1 : (k : Int) < (bs.length : Int) := by omega
      have hx := hix k (by omega)
      have hav := hat k hlt
      have hs := @body_succ bs k hlt
      have hmi : k = 0 → bs[k] = 45 → body (bs.take 1) = [] := fun e1 e2 => by subst e1; exact body_minus hlt e2
      clear hix hat
      generalize bs[k] = x at *
      rcases hav with ⟨x45, k0⟩ | ⟨x45, x0, x1⟩
      focus
        subst k0 x45
        clear hs
        have h1 := hmi rfl rfl
        have hm0 : m = 0 := by rw [hmv]; simp [body, val]
        subst hm0
        clear hmi hmv
        go_wp2_with fail
        refine ⟨⟨1, 0, by omega, rfl, rfl, by rw [h1]; simp [val], (by repeat (first | with_reducible exact Below.refl _ _ | with_reducible assumption | refine bgw ?_ (by first | (simp; done) | (simp; omega) | omega) _ | refine Below.setCell ?_ (by first | exact Nat.le_of_not_lt (by assumption) | (simp; done) | (simp; omega) | omega) _ | refine Below.alloc ?_ (by first | (simp; done) | (simp; omega) | omega) _ | refine Below.drew ?_))⟩, by (try go_num); simp [intOf]; (try omega)⟩
      focus
        have hxb : (x == 45) = false := by rw [beq_eq_false_iff_ne]; exact x45
        have hs' := hs (.inr x45)
        have hr : (10 * (m : Int) + x - 48).tmod 65536 = (((10 * m + (x - 48).toNat) % 65536 : Nat) : Int) := by
          rw [Int.tmod_eq_emod_of_nonneg (by omega)]; omega
        obtain ⟨M, hM⟩ : ∃ M : Nat, (10 * m + (x - 48).toNat) % 65536 = M := ⟨_, rfl⟩
        rw [hM] at hr
        have hM2 : Hid (M = val (body (bs.take (k + 1))) % 65536) := by
          show _ = _
          rw [hs', val_snoc, ← hM]; omega
        clear hs hmi x45 hs' hmv hM
        go_wp2_with fail
        exact ⟨⟨k + 1, M, by omega, by go_num, rfl, hM2.out, (by repeat (first | with_reducible exact Below.refl _ _ | with_reducible assumption | refine bgw ?_ (by first | (simp; done) | (simp; omega) | omega) _ | refine Below.setCell ?_ (by first | exact Nat.le_of_not_lt (by assumption) | (simp; done) | (simp; omega) | omega) _ | refine Below.alloc ?_ (by first | (simp; done) | (simp; omega) | omega) _ | refine Below.drew ?_))⟩, by (try go_num); simp [intOf]; (try omega)⟩
    · obtain rfl : k = bs.length := by omega
      have i1 : ¬ (bs.length : Int) < (bs.length : Int) := by omega
      rw [hend] at hmv
      subst hmv
      clear hix hat hend
      go_wp2_with fail
      go_ret
      exact ⟨rfl, (by repeat (first | with_reducible exact Below.refl _ _ | with_reducible assumption | refine bgw ?_ (by first | (simp; done) | (simp; omega) | omega) _ | refine Below.setCell ?_ (by first | exact Nat.le_of_not_lt (by assumption) | (simp; done) | (simp; omega) | omega) _ | refine Below.alloc ?_ (by first | (simp; done) | (simp; omega) | omega) _ | refine Below.drew ?_))⟩

set_option maxHeartbeats 1000000 in
theorem rfmtF_b (n : Int) (h0 : -9223372036854775808 ≤ n) (h1 : n ≤ 9223372036854775807) (w : World) : Calls Tryd.prog 19 #[.int .i64 n] w fun e w' => e = .returned (.string (strOfNums (fmtF n))) ∧ Below w.heap.size w w' := by
  have cF : ∀ w', Calls Tryd.prog 18 #[.int .i64 n] w' fun e w'' => e = .returned (.string (strOfNums (fmt n))) ∧ Below w'.heap.size w' w'' := fun w' => rfmt_b n h0 h1 w'
  obtain ⟨Q, hQ⟩ : ∃ Q, n.tdiv 65536 = Q := ⟨_, rfl⟩
  obtain ⟨M, hM⟩ : ∃ M, n.tmod 65536 = M := ⟨_, rfl⟩
  have hq := Int.mul_tdiv_add_tmod n 65536
  rw [hQ, hM] at hq
  have hM0 : M.natAbs < 65536 := by
    rw [← hM, Int.natAbs_tmod]; exact Nat.mod_lt _ (by decide)
  have hQ0 : -9223372036854775808 ≤ Q := by omega
  have hQ1 : Q ≤ 9223372036854775807 := by omega
  have hln : (fmt Q).length ≤ 21 := by
    have hd : (dg Q.natAbs).length ≤ 20 := dg_len 20 _ (by rw [show (10 : Nat) ^ 20 = 100000000000000000000 from by decide]; omega)
    unfold fmt; split
    · simp
    · split <;> simp <;> omega
  have cQ : ∀ w', Calls Tryd.prog 18 #[.int .i64 Q] w' fun e w'' => e = .returned (.string (strOfNums (fmt Q))) ∧ Below w'.heap.size w' w'' := fun w' => rfmt_b Q hQ0 hQ1 w'
  unfold fmtF
  rw [hQ, hM]
  have hwQ : wrap64 Q = Q := by unfold wrap64; omega
  clear hq hM0 hQ0 hQ1 h0 h1
  by_cases hz : n = 0
  focus
    rw [if_neg (by rintro ⟨h, _⟩; exact h hz)]
    have hzb : (n != 0) = false := by rw [hz]; rfl
    generalize strOfNums (fmt n) = X at *
    clear hz hQ hM
    go_enter Tryd.func19, Tryd.ntmps19
    go_wp2_with (go_at_call 18; refine Calls.mono (gw_at (cF _)) ?_; rintro e w1 ⟨rfl, q, rfl⟩)
    go_ret
    exact ⟨rfl, (by repeat (first | with_reducible exact Below.refl _ _ | with_reducible assumption | refine bgw ?_ (by first | (simp; done) | (simp; omega) | omega) _ | refine Below.setCell ?_ (by first | exact Nat.le_of_not_lt (by assumption) | (simp; done) | (simp; omega) | omega) _ | refine Below.alloc ?_ (by first | (simp; done) | (simp; omega) | omega) _ | refine Below.drew ?_))⟩
  have hzb : (n != 0) = true := by simp [hz]
  by_cases hm : M = 0
  focus
    rw [if_pos ⟨hz, hm⟩]
    have hmb : (M == 0) = true := by rw [beq_iff_eq]; exact hm
    have e : strOfNums (fmt Q ++ [117]) = strOfNums (fmt Q) ++ { data := #[117] } := by rw [show ({ data := #[117] } : ByteArray) = strOfNums [117] from rfl, str_append]
    have hs : ¬ 9223372036854775807 < (strOfNums (fmt Q)).size + ({ data := #[117] } : ByteArray).size := by rw [strOfNums_size, show ({ data := #[117] } : ByteArray).size = 1 from rfl]; omega
    rw [e]
    clear hz hm e hln cF
    generalize strOfNums (fmt Q) = X at *
    go_enter Tryd.func19, Tryd.ntmps19
    go_wp2_with (go_at_call 18; refine Calls.mono (gw_at (cQ _)) ?_; rintro e w1 ⟨rfl, q, rfl⟩)
    go_ret
    exact ⟨rfl, (by repeat (first | with_reducible exact Below.refl _ _ | with_reducible assumption | refine bgw ?_ (by first | (simp; done) | (simp; omega) | omega) _ | refine Below.setCell ?_ (by first | exact Nat.le_of_not_lt (by assumption) | (simp; done) | (simp; omega) | omega) _ | refine Below.alloc ?_ (by first | (simp; done) | (simp; omega) | omega) _ | refine Below.drew ?_))⟩
  have hmb : (M == 0) = false := by rw [beq_eq_false_iff_ne]; exact hm
  rw [if_neg (by rintro ⟨_, h⟩; exact hm h)]
  clear hz hm hln cQ
  generalize strOfNums (fmt n) = X at *
  go_enter Tryd.func19, Tryd.ntmps19
  go_wp2_with (go_at_call 18; refine Calls.mono (gw_at (cF _)) ?_; rintro e w1 ⟨rfl, q, rfl⟩)
  go_ret
  exact ⟨rfl, (by repeat (first | with_reducible exact Below.refl _ _ | with_reducible assumption | refine bgw ?_ (by first | (simp; done) | (simp; omega) | omega) _ | refine Below.setCell ?_ (by first | exact Nat.le_of_not_lt (by assumption) | (simp; done) | (simp; omega) | omega) _ | refine Below.alloc ?_ (by first | (simp; done) | (simp; omega) | omega) _ | refine Below.drew ?_))⟩

end Go.Proofs.YtdlnidefjdjocaaDoor
