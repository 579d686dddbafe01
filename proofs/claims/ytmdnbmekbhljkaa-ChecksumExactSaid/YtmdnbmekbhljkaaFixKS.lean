/- Contracts of the reference of chapter 9, continued: the checksum. -/
import Derived.Test.YtmdnbmekbhljkaaFixKR
set_option linter.unusedVariables false
namespace Go.Proofs.Ytmdnbmekbhljkaa
open Go.RowKit Ck

theorem T_odd {s : Nat} (h : s % 2 = 1) : T s = s / 2 ^^^ 2197175160 := if_pos h
theorem T_even {s : Nat} (h : ¬ s % 2 = 1) : T s = s / 2 := if_neg h
theorem Tn_succ {j s : Nat} (h : j < 8) : Tn (8 - j) s = Tn (8 - (j + 1)) (T s) := by rw [show 8 - j = (8 - (j + 1)) + 1 from by omega]; rfl

set_option maxHeartbeats 1000000 in
theorem rcrc_b (A : Option Addr) (cap : Nat) (bs : List Int) (hB : isB bs) (hl : bs.length ≤ 1073741824) (w : World) (hp : Byts w A bs) : Calls Try.prog 17 #[.slice A bs.length cap] w fun e w' => e = .returned (.int .u32 (crc bs : Int)) ∧ Below w.heap.size w w' := by
  have hend : reg 4294967295 (bs.take bs.length) ^^^ 4294967295 = crc bs := by rw [List.take_length]; rfl
  obtain ⟨R, hR⟩ : ∃ R : Nat → Nat, ∀ k, reg 4294967295 (bs.take k) = R k := ⟨_, fun _ => rfl⟩
  have hR0 : R 0 = 4294967295 := by rw [← hR]; rfl
  have hR1 : ∀ k (h : k < bs.length), R (k + 1) = Tn 8 (R k ^^^ bs[k].toNat) := fun k h => by
    rw [← hR, ← hR, List.take_add_one, List.getElem?_eq_getElem h, Option.toList_some, reg_snoc]
  have hRl : ∀ k, R k < 4294967296 := fun k => by rw [← hR]; exact reg_lt _ (isB_take hB k) (by decide)
  rw [hR] at hend
  generalize crc bs = Z at *
  clear hR
  go_enter Try.func17, Try.ntmps17
  go_wp2_with fail
  go_loopw [3, 4] (fun s i wr => ∃ k : Nat, k ≤ bs.length ∧ i = .int .i64 k ∧ s = .int .u32 (R k : Int) ∧ Below w.heap.size w wr)
    (fun _ i _ => (bs.length - intOf i).toNat)
  case atStart => exact ⟨0, by omega, rfl, by rw [hR0]; rfl, (by repeat (first | with_reducible exact Below.refl _ _ | with_reducible assumption | refine bgw ?_ (by first | (simp; done) | (simp; omega) | omega) _ | refine Below.setCell ?_ (by first | exact Nat.le_of_not_lt (by assumption) | (simp; done) | (simp; omega) | omega) _ | refine Below.alloc ?_ (by first | (simp; done) | (simp; omega) | omega) _ | refine Below.drew ?_))⟩
  case round =>
    obtain ⟨k, hk, rfl, rfl, hbw⟩ := hrel
    have hsz := hbw.size
    by_cases hlt : k < bs.length
    · have i0 : (0 : Int) ≤ (k : Int) := by omega
      have i1 : (k : Int) < (bs.length : Int) := by omega
      obtain ⟨b, off, rfl, hce⟩ := Byts.open (hp.to hbw) (by omega)
      have d1 := hce k hlt
      have o1 := older_of_cell d1
      obtain ⟨x0, x1⟩ := hB _ (List.getElem_mem hlt)
      have hr := hR1 k hlt
      have hl0 := hRl k
      clear hce hR1 hRl hR0 hend
      generalize bs[k] = x at *
      obtain ⟨X, rfl⟩ : ∃ X : Nat, x = X := ⟨x.toNat, by omega⟩
      rw [Int.toNat_natCast] at hr
      have e1 : IntKind.u32.wrap (X : Int) = (X : Int) := by rw [wrap_u32]; omega
      have e2 : bits BinOp.xor IntKind.u32 (R k : Int) (X : Int) = ((R k ^^^ X : Nat) : Int) := x32 hl0 (by omega)
      have hl1 : R k ^^^ X < 4294967296 := Nat.xor_lt_two_pow (n := 32) hl0 (by omega)
      have hr' : Hid (R (k + 1) = Tn 8 (R k ^^^ X)) := hr
      clear hr
      generalize R k ^^^ X = Y at *
      generalize wr = V at *
      go_wp2_with fail
      go_loopw [3, 5] (fun s j wx => ∃ (p t : Nat), p ≤ 8 ∧ j = .int .i64 p ∧ s = .int .u32 (t : Int) ∧ t < 4294967296 ∧ Hid (Tn (8 - p) t = Tn 8 Y) ∧ wx = V)
        (fun _ j _ => (8 - intOf j).toNat)
      case atStart => exact ⟨0, Y, by omega, rfl, rfl, hl1, rfl, rfl⟩
      case round =>
        obtain ⟨p, t, hp8, rfl, rfl, ht, hT, rfl⟩ := hrel
        by_cases hpt : p < 8
        · have p1 : (p : Int) < 8 := by omega
          obtain ⟨D, hD⟩ : ∃ D, t / 2 = D := ⟨_, rfl⟩
          have f1 : (t : Int).tdiv 2 = (D : Int) := by rw [Int.tdiv_eq_ediv_of_nonneg (by omega)]; omega
          have f2 : (t : Int) / 2 = (D : Int) := by omega
          have f3 : IntKind.u32.wrap (D : Int) = (D : Int) := by rw [wrap_u32]; omega
          have hT' := hT.out
          rw [Tn_succ hpt] at hT'
          by_cases ho : t % 2 = 1
          · have g1 : (t : Int).tmod 2 = 1 := by rw [Int.tmod_eq_emod_of_nonneg (by omega)]; omega
            have g2 : (t : Int) % 2 = 1 := by omega
            have g3 : bits BinOp.xor IntKind.u32 (D : Int) 2197175160 = ((D ^^^ 2197175160 : Nat) : Int) := x32 (by omega) (by decide)
            rw [T_odd ho, hD] at hT'
            have hN : D ^^^ 2197175160 < 4294967296 := Nat.xor_lt_two_pow (n := 32) (by omega) (by decide)
            generalize D ^^^ 2197175160 = N at *
            have hT2 : Hid (Tn (8 - (p + 1)) N = Tn 8 Y) := hT'
            clear hT' hT ho hD
            go_wp2_with fail
            exact ⟨⟨p + 1, N, by omega, by go_num, rfl, hN, hT2, by first | trivial | rfl⟩, by (try go_num); simp [intOf]; (try omega)⟩
          · have g1 : (t : Int).tmod 2 = 0 := by rw [Int.tmod_eq_emod_of_nonneg (by omega)]; omega
            have g2 : (t : Int) % 2 = 0 := by omega
            rw [T_even ho, hD] at hT'
            have hN : D < 4294967296 := by omega
            have hT2 : Hid (Tn (8 - (p + 1)) D = Tn 8 Y) := hT'
            clear hT' hT ho hD
            go_wp2_with fail
            exact ⟨⟨p + 1, D, by omega, by go_num, rfl, hN, hT2, by first | trivial | rfl⟩, by (try go_num); simp [intOf]; (try omega)⟩
        · obtain rfl : p = 8 := by omega
          have hT' : t = Tn 8 Y := hT.out
          rw [← hr'.out] at hT'
          clear hT
          go_wp2_with fail
          exact ⟨⟨k + 1, by omega, by go_num, by rw [hT'], hbw⟩, by (try go_num); simp [intOf]; (try omega)⟩
    · obtain rfl : k = bs.length := by omega
      have i1 : ¬ (bs.length : Int) < (bs.length : Int) := by omega
      have e1 : bits BinOp.xor IntKind.u32 (R bs.length : Int) 4294967295 = (Z : Int) := by rw [← hend]; exact x32 (hRl _) (by decide)
      clear hR1 hRl hR0 hend
      go_wp2_with fail
      go_ret
      exact ⟨rfl, (by repeat (first | with_reducible exact Below.refl _ _ | with_reducible assumption | refine bgw ?_ (by first | (simp; done) | (simp; omega) | omega) _ | refine Below.setCell ?_ (by first | exact Nat.le_of_not_lt (by assumption) | (simp; done) | (simp; omega) | omega) _ | refine Below.alloc ?_ (by first | (simp; done) | (simp; omega) | omega) _ | refine Below.drew ?_))⟩

end Go.Proofs.Ytmdnbmekbhljkaa
