/- Contracts of package checksum: mixing, hashes, the checksum and its bytes. -/
import Derived.Test.YtmdnbmekbhljkaaFixKU
set_option linter.unusedVariables false
namespace Go.Proofs.Ytmdnbmekbhljkaa
open Go.RowKit Ck

theorem xmix_b (h : Nat) (n : Int) (hh : h < 18446744073709551616) (w : World) : Calls Try.prog 12 #[.int .u64 (h : Int), .int .i64 n] w fun e w' => e = .returned (.int .u64 (mx h n : Int)) ∧ Below w.heap.size w w' := by
  obtain ⟨A0, A1, A2, A3, A4, A5, e0, e1, ⟨e2, e2', e2''⟩, e3, e4, ⟨e5, e5', e5''⟩, e6⟩ := mix_parts h n hh
  generalize mx h n = R at *
  go_enter Try.func12, Try.ntmps12
  go_wp2_with fail
  go_ret
  exact ⟨rfl, (by repeat (first | with_reducible exact Below.refl _ _ | with_reducible assumption | refine bgw ?_ (by first | (simp; done) | (simp; omega) | omega) _ | refine Below.setCell ?_ (by first | exact Nat.le_of_not_lt (by assumption) | (simp; done) | (simp; omega) | omega) _ | refine Below.alloc ?_ (by first | (simp; done) | (simp; omega) | omega) _ | refine Below.drew ?_))⟩

theorem xhash_b (A : Option Addr) (cap : Nat) (ns : List Int) (L : Nat) (hL : ns.length = L) (hl : L ≤ 1000000) (w : World) (hp : Ints w A ns) : Calls Try.prog 14 #[.slice A L cap] w fun e w' => e = .returned (.int .u64 (hsh ns : Int)) ∧ Below w.heap.size w w' := by
  subst hL
  have hend : (ns.take ns.length).foldl mx ns.length = hsh ns := by rw [List.take_length]; rfl
  obtain ⟨F, hF⟩ : ∃ F : Nat → Nat, ∀ k, (ns.take k).foldl mx ns.length = F k := ⟨_, fun _ => rfl⟩
  have hF0 : F 0 = ns.length := by rw [← hF]; rfl
  have hF1 : ∀ k (h : k < ns.length), F (k + 1) = mx (F k) ns[k] := fun k h => by rw [← hF, ← hF, hsh_take h]
  have hFl : ∀ k, F k < 18446744073709551616 := fun k => by rw [← hF]; exact fold_lt _ (by omega)
  rw [hF] at hend
  rw [← hend]
  have hwl : IntKind.u64.wrap (ns.length : Int) = (ns.length : Int) := by rw [wrap_u64]; omega
  clear hF hend
  go_enter Try.func14, Try.ntmps14
  go_wp2_with fail
  go_loopw [3, 11] (fun h i wr => ∃ k : Nat, k ≤ ns.length ∧ i = .int .i64 k ∧ h = .int .u64 (F k : Int) ∧ Below w.heap.size w wr)
    (fun _ i _ => (ns.length - intOf i).toNat)
  case atStart => exact ⟨0, by omega, rfl, by rw [hF0], (by repeat (first | with_reducible exact Below.refl _ _ | with_reducible assumption | refine bgw ?_ (by first | (simp; done) | (simp; omega) | omega) _ | refine Below.setCell ?_ (by first | exact Nat.le_of_not_lt (by assumption) | (simp; done) | (simp; omega) | omega) _ | refine Below.alloc ?_ (by first | (simp; done) | (simp; omega) | omega) _ | refine Below.drew ?_))⟩
  case round =>
    obtain ⟨k, hk, rfl, rfl, hbw⟩ := hrel
    have hsz := hbw.size
    by_cases hlt : k < ns.length
    · have i0 : (0 : Int) ≤ (k : Int) := by omega
      have i1 : (k : Int) < (ns.length : Int) := by omega
      obtain ⟨b, off, rfl, hce⟩ := Ints.open (hp.to hbw) (by omega)
      have d1 := hce k hlt
      have o1 := older_of_cell d1
      have hs := hF1 k hlt
      have hc := fun w' => xmix_b (F k) ns[k] (hFl k) w'
      rw [← hs] at hc
      generalize hY : F (k + 1) = Y at *
      generalize F k = X at *
      have hY' : Hid (F (k + 1) = Y) := hY
      clear hce hF1 hFl hF0 hs hY
      generalize ns[k] = x at *
      go_wp2_with (go_at_call 12; refine Calls.mono (gw_at (hc _)) ?_; rintro e w1 ⟨rfl, q, rfl⟩)
      exact ⟨⟨k + 1, by omega, by go_num, by rw [hY'.out], (by repeat (first | with_reducible exact Below.refl _ _ | with_reducible assumption | refine bgw ?_ (by first | (simp; done) | (simp; omega) | omega) _ | refine Below.setCell ?_ (by first | exact Nat.le_of_not_lt (by assumption) | (simp; done) | (simp; omega) | omega) _ | refine Below.alloc ?_ (by first | (simp; done) | (simp; omega) | omega) _ | refine Below.drew ?_))⟩, by (try go_num); simp [intOf]; (try omega)⟩
    · obtain rfl : k = ns.length := by omega
      have i1 : ¬ (ns.length : Int) < (ns.length : Int) := by omega
      clear hF1 hFl hF0
      go_wp2_with fail
      go_ret
      exact ⟨rfl, (by repeat (first | with_reducible exact Below.refl _ _ | with_reducible assumption | refine bgw ?_ (by first | (simp; done) | (simp; omega) | omega) _ | refine Below.setCell ?_ (by first | exact Nat.le_of_not_lt (by assumption) | (simp; done) | (simp; omega) | omega) _ | refine Below.alloc ?_ (by first | (simp; done) | (simp; omega) | omega) _ | refine Below.drew ?_))⟩

theorem and_nat (k : IntKind) (b : Nat) (hb : b = k.bits) (hw : ∀ n : Nat, n < 2 ^ b → k.wrap (n : Int) = n) (x y : Nat) (hx : x < 2 ^ b) (hy : y < 2 ^ b) : bits .and k (x : Int) (y : Int) = ((x &&& y : Nat) : Int) := by
  subst hb
  have h1 : (BitVec.ofInt k.bits (x : Int)).toNat = x := by
    rw [BitVec.ofInt_natCast, BitVec.toNat_ofNat]; exact Nat.mod_eq_of_lt hx
  have h2 : (BitVec.ofInt k.bits (y : Int)).toNat = y := by
    rw [BitVec.ofInt_natCast, BitVec.toNat_ofNat]; exact Nat.mod_eq_of_lt hy
  show k.wrap ((BitVec.ofInt k.bits (x : Int) &&& BitVec.ofInt k.bits (y : Int)).toNat : Int) = _
  rw [BitVec.toNat_and, h1, h2]
  exact hw _ (Nat.and_lt_two_pow x hy)
theorem a32 {x y : Nat} (hx : x < 4294967296) (hy : y < 4294967296) : bits .and .u32 (x : Int) (y : Int) = ((x &&& y : Nat) : Int) :=
  and_nat .u32 32 rfl (fun n h => by rw [wrap_u32]; have h' : n < 4294967296 := h; omega) x y hx hy

set_option maxHeartbeats 1000000 in
theorem xsh_b (s : Nat) (hs : s < 4294967296) (w : World) : Calls Try.prog 25 #[.int .u32 (s : Int)] w fun e w' => e = .returned (.int .u32 (Tn 8 s : Int)) ∧ Below w.heap.size w w' := by
  obtain ⟨Z, hZ⟩ : ∃ Z, Hid (Tn 8 s = Z) := ⟨_, rfl⟩
  rw [hZ.out]
  go_enter Try.func25, Try.ntmps25
  go_wp2_with fail
  go_loopw [0, 4] (fun r j wx => ∃ (p t : Nat), p ≤ 8 ∧ j = .int .i64 p ∧ r = .int .u32 (t : Int) ∧ t < 4294967296 ∧ Hid (Tn (8 - p) t = Z) ∧ Below w.heap.size w wx)
    (fun _ j _ => (8 - intOf j).toNat)
  case atStart => exact ⟨0, s, by omega, rfl, rfl, hs, hZ, (by repeat (first | with_reducible exact Below.refl _ _ | with_reducible assumption | refine bgw ?_ (by first | (simp; done) | (simp; omega) | omega) _ | refine Below.setCell ?_ (by first | exact Nat.le_of_not_lt (by assumption) | (simp; done) | (simp; omega) | omega) _ | refine Below.alloc ?_ (by first | (simp; done) | (simp; omega) | omega) _ | refine Below.drew ?_))⟩
  case round =>
    obtain ⟨p, t, hp8, rfl, rfl, ht, hT, hbw⟩ := hrel
    by_cases hpt : p < 8
    · have p1 : (p : Int) < 8 := by omega
      obtain ⟨D, hD⟩ : ∃ D, t / 2 = D := ⟨_, rfl⟩
      have f1 : (t : Int).tdiv 2 = (D : Int) := by rw [Int.tdiv_eq_ediv_of_nonneg (by omega)]; omega
      have f2 : (t : Int) / 2 = (D : Int) := by omega
      have f3 : IntKind.u32.wrap (D : Int) = (D : Int) := by rw [wrap_u32]; omega
      have hT' := hT.out
      rw [Tn_succ hpt] at hT'
      by_cases ho : t % 2 = 1
      · have g1 : bits BinOp.and IntKind.u32 (t : Int) 1 = 1 := by rw [show (1 : Int) = ((1 : Nat) : Int) from rfl, a32 ht (by decide), Nat.and_one_is_mod, ho]
        have g3 : bits BinOp.xor IntKind.u32 (D : Int) 2197175160 = ((D ^^^ 2197175160 : Nat) : Int) := x32 (by omega) (by decide)
        rw [T_odd ho, hD] at hT'
        have hN : D ^^^ 2197175160 < 4294967296 := Nat.xor_lt_two_pow (n := 32) (by omega) (by decide)
        generalize D ^^^ 2197175160 = N at *
        have hT2 : Hid (Tn (8 - (p + 1)) N = Z) := hT'
        clear hT' hT ho hD
        go_wp2_with fail
        exact ⟨⟨p + 1, N, by omega, by go_num, rfl, hN, hT2, hbw⟩, by (try go_num); simp [intOf]; (try omega)⟩
      · have g1 : bits BinOp.and IntKind.u32 (t : Int) 1 = 0 := by rw [show (1 : Int) = ((1 : Nat) : Int) from rfl, a32 ht (by decide), Nat.and_one_is_mod, show t % 2 = 0 from by omega]; rfl
        rw [T_even ho, hD] at hT'
        have hN : D < 4294967296 := by omega
        have hT2 : Hid (Tn (8 - (p + 1)) D = Z) := hT'
        clear hT' hT ho hD
        go_wp2_with fail
        exact ⟨⟨p + 1, D, by omega, by go_num, rfl, hN, hT2, hbw⟩, by (try go_num); simp [intOf]; (try omega)⟩
    · obtain rfl : p = 8 := by omega
      have hT' : t = Z := hT.out
      subst hT'
      clear hT hZ
      go_wp2_with fail
      go_ret
      exact ⟨rfl, (by repeat (first | with_reducible exact Below.refl _ _ | with_reducible assumption | refine bgw ?_ (by first | (simp; done) | (simp; omega) | omega) _ | refine Below.setCell ?_ (by first | exact Nat.le_of_not_lt (by assumption) | (simp; done) | (simp; omega) | omega) _ | refine Below.alloc ?_ (by first | (simp; done) | (simp; omega) | omega) _ | refine Below.drew ?_))⟩

set_option maxHeartbeats 1000000 in
theorem xcrc_b (A : Option Addr) (cap : Nat) (bs : List Int) (L : Nat) (hL : bs.length = L) (hB : isB bs) (hl : L ≤ 1073741824) (w : World) (hp : Byts w A bs) : Calls Try.prog 16 #[.slice A L cap] w fun e w' => e = .returned (.int .u32 (crc bs : Int)) ∧ Below w.heap.size w w' := by
  subst hL
  have hend : reg 4294967295 (bs.take bs.length) ^^^ 4294967295 = crc bs := by rw [List.take_length]; rfl
  obtain ⟨R, hR⟩ : ∃ R : Nat → Nat, ∀ k, reg 4294967295 (bs.take k) = R k := ⟨_, fun _ => rfl⟩
  have hR0 : R 0 = 4294967295 := by rw [← hR]; rfl
  have hR1 : ∀ k (h : k < bs.length), R (k + 1) = Tn 8 (R k ^^^ bs[k].toNat) := fun k h => by
    rw [← hR, ← hR, List.take_add_one, List.getElem?_eq_getElem h, Option.toList_some, reg_snoc]
  have hRl : ∀ k, R k < 4294967296 := fun k => by rw [← hR]; exact reg_lt _ (isB_take hB k) (by decide)
  rw [hR] at hend
  generalize crc bs = Z at *
  clear hR
  go_enter Try.func16, Try.ntmps16
  go_wp2_with fail
  go_loopw [3, 8] (fun s i wr => ∃ k : Nat, k ≤ bs.length ∧ i = .int .i64 k ∧ s = .int .u32 (R k : Int) ∧ Below w.heap.size w wr)
    (fun _ i _ => (bs.length - intOf i).toNat)
  case atStart => exact ⟨0, by omega, rfl, by rw [hR0]; rfl, (by repeat (first | with_reducible exact Below.refl _ _ | with_reducible assumption | refine bgw ?_ (by first | (simp; done) | (simp; omega) | omega) _ | refine Below.setCell ?_ (by first | exact Nat.le_of_not_lt (by assumption) | (simp; done) | (simp; omega) | omega) _ | refine Below.alloc ?_ (by first | (simp; done) | (simp; omega) | omega) _ | refine Below.drew ?_))⟩
  case round =>
    obtain ⟨k, hk, rfl, rfl, hbw⟩ := hrel
    have hsz := hbw.size
    by_cases hlt : k < bs.length
    · have i0 : (0 : Int) ≤ (k : Int) := by omega
      have i1 : (k : Int) < (bs.length : Int) := by omega
      obtain ⟨b, off, rfl, hce⟩ := Byts.open (hp.to hbw) (by omega)
      have d1 := hce k hlt
      have o1 := older_of_cell d1
      obtain ⟨x0, x1⟩ := hB _ (List.getElem_mem hlt)
      have hr := hR1 k hlt
      have hl0 := hRl k
      clear hce hR1 hRl hR0 hend
      generalize bs[k] = x at *
      obtain ⟨X, rfl⟩ : ∃ X : Nat, x = X := ⟨x.toNat, by omega⟩
      rw [Int.toNat_natCast] at hr
      have e1 : IntKind.u32.wrap (X : Int) = (X : Int) := by rw [wrap_u32]; omega
      have e2 : bits BinOp.xor IntKind.u32 (R k : Int) (X : Int) = ((R k ^^^ X : Nat) : Int) := x32 hl0 (by omega)
      have hl1 : R k ^^^ X < 4294967296 := Nat.xor_lt_two_pow (n := 32) hl0 (by omega)
      generalize R k ^^^ X = Y at *
      have hc := fun w' => xsh_b Y hl1 w'
      rw [← hr] at hc
      generalize hY : R (k + 1) = Q at *
      have hY' : Hid (R (k + 1) = Q) := hY
      clear hY hr
      go_wp2_with (go_at_call 25; refine Calls.mono (gw_at (hc _)) ?_; rintro e w1 ⟨rfl, q, rfl⟩)
      exact ⟨⟨k + 1, by omega, by go_num, by rw [hY'.out], (by repeat (first | with_reducible exact Below.refl _ _ | with_reducible assumption | refine bgw ?_ (by first | (simp; done) | (simp; omega) | omega) _ | refine Below.setCell ?_ (by first | exact Nat.le_of_not_lt (by assumption) | (simp; done) | (simp; omega) | omega) _ | refine Below.alloc ?_ (by first | (simp; done) | (simp; omega) | omega) _ | refine Below.drew ?_))⟩, by (try go_num); simp [intOf]; (try omega)⟩
    · obtain rfl : k = bs.length := by omega
      have i1 : ¬ (bs.length : Int) < (bs.length : Int) := by omega
      have e1 : bits BinOp.xor IntKind.u32 IntKind.u32.max (R bs.length : Int) = (Z : Int) := by
        rw [← hend, Nat.xor_comm]; exact x32 (by decide) (hRl _)
      clear hR1 hRl hR0 hend
      go_wp2_with fail
      go_ret
      exact ⟨rfl, (by repeat (first | with_reducible exact Below.refl _ _ | with_reducible assumption | refine bgw ?_ (by first | (simp; done) | (simp; omega) | omega) _ | refine Below.setCell ?_ (by first | exact Nat.le_of_not_lt (by assumption) | (simp; done) | (simp; omega) | omega) _ | refine Below.alloc ?_ (by first | (simp; done) | (simp; omega) | omega) _ | refine Below.drew ?_))⟩

end Go.Proofs.Ytmdnbmekbhljkaa
