/- Contracts of package codec that write. -/
import Derived.Test.YtgpcldhgkaddeaaFixCS
import Derived.Test.YtgpcldhgkaddeaaByN
import Derived.Test.YtgpcldhgkaddeaaApd
import Derived.Test.YtgpcldhgkaddeaaLen
set_option linter.unusedVariables false
namespace Go.Proofs.Ytgpcldhgkaddeaa
open Go.RowKit By

theorem cut_b (A : Option Addr) (n cap : Nat) (hn : n ≤ cap) (hA : A = none → cap = 0) (w : World) : Calls Try.prog 30 #[.slice A n cap] w fun e w' => e = .returned (.slice A n n) ∧ Below w.heap.size w w' := by
  cases A with
  | none =>
    obtain rfl := hA rfl
    obtain rfl : n = 0 := by omega
    go_enter Try.func30, Try.ntmps30
    go_wp2_with fail
    go_ret
    exact ⟨rfl, (by repeat (first | with_reducible exact Below.refl _ _ | with_reducible assumption | refine bgw ?_ (by first | (simp; done) | (simp; omega) | omega) _ | refine Below.setCell ?_ (by first | exact Nat.le_of_not_lt (by assumption) | (simp; done) | (simp; omega) | omega) _ | refine Below.alloc ?_ (by first | (simp; done) | (simp; omega) | omega) _ | refine Below.drew ?_))⟩
  | some ad =>
    go_enter Try.func30, Try.ntmps30
    go_wp2_with fail
    go_ret
    exact ⟨rfl, (by repeat (first | with_reducible exact Below.refl _ _ | with_reducible assumption | refine bgw ?_ (by first | (simp; done) | (simp; omega) | omega) _ | refine Below.setCell ?_ (by first | exact Nat.le_of_not_lt (by assumption) | (simp; done) | (simp; omega) | omega) _ | refine Below.alloc ?_ (by first | (simp; done) | (simp; omega) | omega) _ | refine Below.drew ?_))⟩

theorem wri_b (B : Nat) (v : Value) (bs : List Int) (n : Int) (hl : bs.length ≤ 1000000000) (h0 : -9223372036854775808 ≤ n) (h1 : n ≤ 9223372036854775807) (w : World) (hv : Apd w B 5 v bs.length (yv bs)) (hB : B ≤ w.heap.size) : Calls Try.prog 29 #[v, .int .i64 n] w fun e w' => (∃ v', e = .returned v' ∧ w'.ownsRow B 5 1 v' (bs.length + (enc n).length) (yv (bs ++ enc n))) ∧ Below B w w' := by
  obtain ⟨i0, hi, hz0, hz1, hz2⟩ := info_parts info_u8
  obtain ⟨A, c, rfl⟩ : ∃ A c, v = .slice A bs.length c := by
    rcases hv with hv | ⟨A, rfl, _⟩
    · obtain ⟨A, c, rfl, _⟩ := owns_sl hv; exact ⟨A, c, rfl⟩
    · exact ⟨A, _, rfl⟩
  have hd8 := dig8 h0 h1
  have hsz := dig_size (m := n.natAbs) (by omega)
  have hhd : hdr n = ((dig n.natAbs).length : Int) + if n < 0 then 16 else 0 := rfl
  have hel := enc_len n
  have hen : enc n = hdr n :: dig n.natAbs := rfl
  have hml : n.natAbs ≤ 9223372036854775808 := by omega
  obtain ⟨m, hm⟩ : ∃ m, n.natAbs = m := ⟨_, rfl⟩
  obtain ⟨D, hD⟩ : ∃ D, (dig m).length = D := ⟨_, rfl⟩
  obtain ⟨L, hL⟩ : ∃ L, Lib.bitLen m = L := ⟨_, rfl⟩
  rw [hm] at hd8 hsz hhd hel hen hml
  rw [hD] at hd8 hsz hhd hel
  rw [hL] at hsz
  have cL : ∀ w', Calls Try.prog 36 #[.int .u64 (m : Int)] w' fun e w'' => e = .returned (.int .i64 (L : Int)) ∧ w'' = w' := fun w' => by
    have := len_p (m : Int) w' (by omega) (by omega)
    rw [Int.toNat_natCast, hL] at this; exact this
  have L0 : (L : Int) ≤ 64 := by omega
  have D0 : (D : Int) ≤ 8 := by omega
  have t1 : ((L : Int) + 7).tdiv 8 = (D : Int) := by rw [Int.tdiv_eq_ediv_of_nonneg (by omega)]; omega
  have hE : Hid (n.natAbs = m ∧ (dig m).length = D ∧ D = (L + 7) / 8 ∧ (enc n).length = D + 1 ∧ enc n = hdr n :: dig m) := ⟨hm, hD, hsz, hel, hen⟩
  by_cases hn : n < 0
  focus
    rw [if_pos hn] at hhd
    have e1 : IntKind.u64.wrap (-IntKind.u64.wrap n) = (m : Int) := by simp only [IntKind.wrap_u64]; omega
    clear hm hL hD hsz hel hen
    go_enter Try.func29, Try.ntmps29
    go_wp2_with (first
      | (go_at_call 36; refine (cL _).mono ?_; rintro e w1 ⟨rfl, hw1⟩; rw [hw1]; clear hw1 w1)
      | (at_builtin; refine wpList_appA rfl (.tmp 19) (.tmp 24) 22 rfl B 5 i0 (.int .u8 0) 1 Try.underlying22 hi hz0 hz1 hz2 rfl _ _ _ rfl (Apd.to hv (by repeat (first | with_reducible exact Below.refl _ _ | with_reducible assumption | refine bgw ?_ (by first | (simp; done) | (simp; omega) | omega) _ | refine Below.setCell ?_ (by first | exact Nat.le_of_not_lt (by assumption) | (simp; done) | (simp; omega) | omega) _ | refine Below.alloc ?_ (by first | (simp; done) | (simp; omega) | omega) _ | refine Below.drew ?_))) _ _ _ [.int .u8 ((D : Int) + 16)] rfl (by omega) (by simp) (Cs.of_list (xs := [.int .u8 ((D : Int) + 16)]) (by repeat (first | with_reducible exact blk_new _ _ _ | ((with_reducible refine blk_at ?_); (simp; done)) | with_reducible apply blk_alloc | with_reducible apply blk_gw))) (fun u hu => by simp at hu; subst hu; rfl) (by first | (unfold maxLen; omega) | (unfold maxLen; simp; omega)) (by first | omega | (simp; omega)) (by omega) (by first | (simp; done) | (simp; omega) | omega) ?_; intro v3 w3 hown3 hb3; have hs3 := hb3.size; try simp at hs3))
    go_loopw [0, 8] (fun v' p wr => ∃ (k : Nat) (p' : Int), k ≤ D ∧ p = .int .i64 p' ∧ Hid (p' = (D : Int) - 1 - k) ∧ wr.ownsRow B 5 1 v' (bs.length + 1 + k) (yv (bs ++ hdr n :: (dig m).take k)) ∧ Below B w wr)
      (fun _ p _ => (intOf p + 1).toNat)
    case atStart => exact ⟨0, (D : Int) - 1, by omega, rfl, by show _ = _; omega, by rw [hhd]; simpa [yv] using hown3, Below.trans (by repeat (first | with_reducible exact Below.refl _ _ | with_reducible assumption | refine bgw ?_ (by first | (simp; done) | (simp; omega) | omega) _ | refine Below.setCell ?_ (by first | exact Nat.le_of_not_lt (by assumption) | (simp; done) | (simp; omega) | omega) _ | refine Below.alloc ?_ (by first | (simp; done) | (simp; omega) | omega) _ | refine Below.drew ?_)) hb3⟩
    case round =>
      obtain ⟨k, p', hk, rfl, hp', hown, hbw⟩ := hrel
      obtain ⟨X, c', rfl, hc1, hc2, hX, hcs⟩ := owns_sl hown
      by_cases hkD : k = D
      focus
        have g : ¬ (0 : Int) ≤ p' := by have := hp'.out; omega
        go_wp2_with fail
        go_ret
        obtain ⟨h3, h4, h5, h6, h7⟩ := hE.out
        refine ⟨⟨_, rfl, ?_⟩, hbw⟩
        rw [h6, h7]
        rw [hkD, List.take_of_length_le (by omega)] at hown
        rw [show bs.length + (D + 1) = bs.length + 1 + D by omega]
        exact hown
      obtain ⟨q, rfl⟩ : ∃ q : Nat, p' = q := ⟨p'.toNat, by have := hp'.out; omega⟩
      have hq7 : k + 1 + q = D := by have := hp'.out; omega
      have q0 : (0 : Int) ≤ (q : Int) := by omega
      have q7 : (q : Int) ≤ 7 := by omega
      obtain ⟨x, hx⟩ : ∃ x, m / 256 ^ q % 256 = x := ⟨_, rfl⟩
      have hdg : (m : Int) / 2 ^ (8 * q) % 256 = (x : Int) := by rw [dig_shr, hx]
      have x1 : (x : Int) < 256 := by omega
      have hsw := hbw.size
      have htk : Hid ((dig m).take (k + 1) = (dig m).take k ++ [(x : Int)]) := by
        have := dig_take (m := m) (k := k) (p := q) (by have := hE.out; omega)
        rw [hx] at this; exact this
      clear hx
      go_wp2_with (first
        | (at_builtin; refine wpList_appN rfl (.tmp 32) (.tmp 38) 22 rfl B 5 i0 (.int .u8 0) 1 Try.underlying22 hi hz0 hz1 hz2 rfl _ _ _ rfl (owns_below hown (by repeat (first | with_reducible exact Below.refl _ _ | with_reducible assumption | refine bgw ?_ (by first | (simp; done) | (simp; omega) | omega) _ | refine Below.setCell ?_ (by first | exact Nat.le_of_not_lt (by assumption) | (simp; done) | (simp; omega) | omega) _ | refine Below.alloc ?_ (by first | (simp; done) | (simp; omega) | omega) _ | refine Below.drew ?_))) _ _ _ [.int .u8 (x : Int)] rfl (fun h => by cases h) (by simp) (Cs.of_list (xs := [.int .u8 (x : Int)]) (by repeat (first | with_reducible exact blk_new _ _ _ | ((with_reducible refine blk_at ?_); (simp; done)) | with_reducible apply blk_alloc | with_reducible apply blk_gw))) (fun u hu => by simp at hu; subst hu; rfl) (by first | (unfold maxLen; omega) | (unfold maxLen; simp; omega)) (by first | omega | (simp; omega)) (by first | (simp; done) | (simp; omega) | omega) ?_; intro v4 w4 hown4 hb4; have hs4 := hb4.size; try simp at hs4))
      refine ⟨⟨k + 1, (q : Int) - 1, by omega, by go_num, by show _ = _; omega, ?_, Below.trans hbw (Below.trans (Below.alloc (Below.refl _ _) (by omega) _) hb4)⟩, by simp [intOf] <;> omega⟩
      rw [htk.out]
      simpa [yv, Nat.add_assoc] using hown4
  rw [if_neg hn] at hhd
  have e1 : IntKind.u64.wrap n = (m : Int) := by simp only [IntKind.wrap_u64]; omega
  clear hm hL hD hsz hel hen
  go_enter Try.func29, Try.ntmps29
  go_wp2_with (first
    | (go_at_call 36; refine (cL _).mono ?_; rintro e w1 ⟨rfl, hw1⟩; rw [hw1]; clear hw1 w1)
    | (at_builtin; refine wpList_appA rfl (.tmp 19) (.tmp 24) 22 rfl B 5 i0 (.int .u8 0) 1 Try.underlying22 hi hz0 hz1 hz2 rfl _ _ _ rfl (Apd.to hv (by repeat (first | with_reducible exact Below.refl _ _ | with_reducible assumption | refine bgw ?_ (by first | (simp; done) | (simp; omega) | omega) _ | refine Below.setCell ?_ (by first | exact Nat.le_of_not_lt (by assumption) | (simp; done) | (simp; omega) | omega) _ | refine Below.alloc ?_ (by first | (simp; done) | (simp; omega) | omega) _ | refine Below.drew ?_))) _ _ _ [.int .u8 ((D : Int))] rfl (by omega) (by simp) (Cs.of_list (xs := [.int .u8 ((D : Int))]) (by repeat (first | with_reducible exact blk_new _ _ _ | ((with_reducible refine blk_at ?_); (simp; done)) | with_reducible apply blk_alloc | with_reducible apply blk_gw))) (fun u hu => by simp at hu; subst hu; rfl) (by first | (unfold maxLen; omega) | (unfold maxLen; simp; omega)) (by first | omega | (simp; omega)) (by omega) (by first | (simp; done) | (simp; omega) | omega) ?_; intro v3 w3 hown3 hb3; have hs3 := hb3.size; try simp at hs3))
  go_loopw [0, 8] (fun v' p wr => ∃ (k : Nat) (p' : Int), k ≤ D ∧ p = .int .i64 p' ∧ Hid (p' = (D : Int) - 1 - k) ∧ wr.ownsRow B 5 1 v' (bs.length + 1 + k) (yv (bs ++ hdr n :: (dig m).take k)) ∧ Below B w wr)
    (fun _ p _ => (intOf p + 1).toNat)
  case atStart => exact ⟨0, (D : Int) - 1, by omega, rfl, by show _ = _; omega, by rw [hhd]; simpa [yv] using hown3, Below.trans (by repeat (first | with_reducible exact Below.refl _ _ | with_reducible assumption | refine bgw ?_ (by first | (simp; done) | (simp; omega) | omega) _ | refine Below.setCell ?_ (by first | exact Nat.le_of_not_lt (by assumption) | (simp; done) | (simp; omega) | omega) _ | refine Below.alloc ?_ (by first | (simp; done) | (simp; omega) | omega) _ | refine Below.drew ?_)) hb3⟩
  case round =>
    obtain ⟨k, p', hk, rfl, hp', hown, hbw⟩ := hrel
    obtain ⟨X, c', rfl, hc1, hc2, hX, hcs⟩ := owns_sl hown
    by_cases hkD : k = D
    focus
      have g : ¬ (0 : Int) ≤ p' := by have := hp'.out; omega
      go_wp2_with fail
      go_ret
      obtain ⟨h3, h4, h5, h6, h7⟩ := hE.out
      refine ⟨⟨_, rfl, ?_⟩, hbw⟩
      rw [h6, h7]
      rw [hkD, List.take_of_length_le (by omega)] at hown
      rw [show bs.length + (D + 1) = bs.length + 1 + D by omega]
      exact hown
    obtain ⟨q, rfl⟩ : ∃ q : Nat, p' = q := ⟨p'.toNat, by have := hp'.out; omega⟩
    have hq7 : k + 1 + q = D := by have := hp'.out; omega
    have q0 : (0 : Int) ≤ (q : Int) := by omega
    have q7 : (q : Int) ≤ 7 := by omega
    obtain ⟨x, hx⟩ : ∃ x, m / 256 ^ q % 256 = x := ⟨_, rfl⟩
    have hdg : (m : Int) / 2 ^ (8 * q) % 256 = (x : Int) := by rw [dig_shr, hx]
    have x1 : (x : Int) < 256 := by omega
    have hsw := hbw.size
    have htk : Hid ((dig m).take (k + 1) = (dig m).take k ++ [(x : Int)]) := by
      have := dig_take (m := m) (k := k) (p := q) (by have := hE.out; omega)
      rw [hx] at this; exact this
    clear hx
    go_wp2_with (first
      | (at_builtin; refine wpList_appN rfl (.tmp 32) (.tmp 38) 22 rfl B 5 i0 (.int .u8 0) 1 Try.underlying22 hi hz0 hz1 hz2 rfl _ _ _ rfl (owns_below hown (by repeat (first | with_reducible exact Below.refl _ _ | with_reducible assumption | refine bgw ?_ (by first | (simp; done) | (simp; omega) | omega) _ | refine Below.setCell ?_ (by first | exact Nat.le_of_not_lt (by assumption) | (simp; done) | (simp; omega) | omega) _ | refine Below.alloc ?_ (by first | (simp; done) | (simp; omega) | omega) _ | refine Below.drew ?_))) _ _ _ [.int .u8 (x : Int)] rfl (fun h => by cases h) (by simp) (Cs.of_list (xs := [.int .u8 (x : Int)]) (by repeat (first | with_reducible exact blk_new _ _ _ | ((with_reducible refine blk_at ?_); (simp; done)) | with_reducible apply blk_alloc | with_reducible apply blk_gw))) (fun u hu => by simp at hu; subst hu; rfl) (by first | (unfold maxLen; omega) | (unfold maxLen; simp; omega)) (by first | omega | (simp; omega)) (by first | (simp; done) | (simp; omega) | omega) ?_; intro v4 w4 hown4 hb4; have hs4 := hb4.size; try simp at hs4))
    refine ⟨⟨k + 1, (q : Int) - 1, by omega, by go_num, by show _ = _; omega, ?_, Below.trans hbw (Below.trans (Below.alloc (Below.refl _ _) (by omega) _) hb4)⟩, by simp [intOf] <;> omega⟩
    rw [htk.out]
    simpa [yv, Nat.add_assoc] using hown4

theorem xai_b (A : Option Addr) (cap : Nat) (bs : List Int) (n : Int) (hl : bs.length ≤ 1000000000) (h0 : i64 n) (hA : A = none → cap = 0) (w : World) (hp : Byts w A bs) (hk : bs.length ≤ cap := by first | assumption | omega | (simp; done) | (simp; omega)) : Calls Try.prog 11 #[.slice A bs.length cap, .int .i64 n] w fun e w' => (∃ v, e = .returned v ∧ w'.ownsRow w.heap.size 5 1 v (bs.length + (enc n).length) (yv (bs ++ (enc n)))) ∧ Below w.heap.size w w' := by
  have cW : ∀ w', Below w.heap.size w w' → Calls Try.prog 29 #[.slice A bs.length bs.length, .int .i64 n] w' fun e w'' => (∃ v, e = .returned v ∧ w''.ownsRow w'.heap.size 5 1 v (bs.length + (enc n).length) (yv (bs ++ (enc n)))) ∧ Below w'.heap.size w' w'' := fun w' hb => wri_b w'.heap.size _ bs n hl h0.1 h0.2 w' (.inr ⟨A, rfl, fun h => by have := hA h; omega, by simp, Cs.to hp hb⟩) (Nat.le_refl _)
  go_enter Try.func11, Try.ntmps11
  go_wp2_with (first
    | (go_at_call 30; refine Calls.mono (gw_at (cut_b _ _ _ (by with_reducible assumption) (by with_reducible assumption) _)) ?_; rintro e w1 ⟨rfl, q, rfl⟩)
    | (go_at_call 29; refine Calls.mono (gw_ex (cW _ (by repeat (first | with_reducible exact Below.refl _ _ | with_reducible assumption | refine bgw ?_ (by first | (simp; done) | (simp; omega) | omega) _ | refine Below.setCell ?_ (by first | exact Nat.le_of_not_lt (by assumption) | (simp; done) | (simp; omega) | omega) _ | refine Below.alloc ?_ (by first | (simp; done) | (simp; omega) | omega) _ | refine Below.drew ?_)))) ?_; rintro e w1 ⟨⟨v', rfl, hown⟩, q, rfl⟩))
  go_ret
  exact ⟨⟨v', rfl, owns_mono (owns_below hown (by repeat (first | with_reducible exact Below.refl _ _ | with_reducible assumption | refine bgw ?_ (by first | (simp; done) | (simp; omega) | omega) _ | refine Below.setCell ?_ (by first | exact Nat.le_of_not_lt (by assumption) | (simp; done) | (simp; omega) | omega) _ | refine Below.alloc ?_ (by first | (simp; done) | (simp; omega) | omega) _ | refine Below.drew ?_))) (by first | exact Nat.le_refl _ | (simp; done) | (simp; omega))⟩, (by repeat (first | with_reducible exact Below.refl _ _ | with_reducible assumption | refine bgw ?_ (by first | (simp; done) | (simp; omega) | omega) _ | refine Below.setCell ?_ (by first | exact Nat.le_of_not_lt (by assumption) | (simp; done) | (simp; omega) | omega) _ | refine Below.alloc ?_ (by first | (simp; done) | (simp; omega) | omega) _ | refine Below.drew ?_))⟩

theorem xab_b (A : Option Addr) (cap : Nat) (bs : List Int) (x : Bool) (hl : bs.length ≤ 1000000000) (hA : A = none → cap = 0) (w : World) (hp : Byts w A bs) (hk : bs.length ≤ cap := by first | assumption | omega | (simp; done) | (simp; omega)) : Calls Try.prog 12 #[.slice A bs.length cap, .bool x] w fun e w' => (∃ v, e = .returned v ∧ w'.ownsRow w.heap.size 5 1 v (bs.length + (encBool x).length) (yv (bs ++ (encBool x)))) ∧ Below w.heap.size w w' := by
  obtain ⟨i0, hi, hz0, hz1, hz2⟩ := info_parts info_u8
  have hv : ∀ w', Below w.heap.size w w' → Apd w' w.heap.size 5 (.slice A bs.length bs.length) bs.length (yv bs) := fun w' hb => .inr ⟨A, rfl, fun h => by have := hA h; omega, by simp, Cs.to hp hb⟩
  cases x
  focus
    go_enter Try.func12, Try.ntmps12
    go_wp2_with (first
      | (go_at_call 30; refine Calls.mono (gw_at (cut_b _ _ _ (by with_reducible assumption) (by with_reducible assumption) _)) ?_; rintro e w1 ⟨rfl, q, rfl⟩)
      | (at_builtin; refine wpList_appA rfl (.tmp 11) (.tmp 12) 22 rfl w.heap.size 5 i0 (.int .u8 0) 1 Try.underlying22 hi hz0 hz1 hz2 rfl _ _ _ rfl (hv _ (by repeat (first | with_reducible exact Below.refl _ _ | with_reducible assumption | refine bgw ?_ (by first | (simp; done) | (simp; omega) | omega) _ | refine Below.setCell ?_ (by first | exact Nat.le_of_not_lt (by assumption) | (simp; done) | (simp; omega) | omega) _ | refine Below.alloc ?_ (by first | (simp; done) | (simp; omega) | omega) _ | refine Below.drew ?_))) _ _ _ [.int .u8 0] rfl (by omega) (by simp) (Cs.of_list (xs := [.int .u8 0]) (by repeat (first | with_reducible exact blk_new _ _ _ | ((with_reducible refine blk_at ?_); (simp; done)) | with_reducible apply blk_alloc | with_reducible apply blk_gw))) (fun u hu => by simp at hu; subst hu; rfl) (by first | (unfold maxLen; omega) | (unfold maxLen; simp; omega)) (by first | omega | (simp; omega)) (by omega) (by first | (simp; done) | (simp; omega) | omega) ?_; intro v3 w3 hown3 hb3; have hs3 := hb3.size; try simp at hs3))
    go_ret
    exact ⟨⟨v3, rfl, by simpa [yv, encBool] using hown3⟩, Below.trans (by repeat (first | with_reducible exact Below.refl _ _ | with_reducible assumption | refine bgw ?_ (by first | (simp; done) | (simp; omega) | omega) _ | refine Below.setCell ?_ (by first | exact Nat.le_of_not_lt (by assumption) | (simp; done) | (simp; omega) | omega) _ | refine Below.alloc ?_ (by first | (simp; done) | (simp; omega) | omega) _ | refine Below.drew ?_)) hb3⟩
  go_enter Try.func12, Try.ntmps12
  go_wp2_with (first
    | (go_at_call 30; refine Calls.mono (gw_at (cut_b _ _ _ (by with_reducible assumption) (by with_reducible assumption) _)) ?_; rintro e w1 ⟨rfl, q, rfl⟩)
    | (at_builtin; refine wpList_appA rfl (.tmp 7) (.tmp 8) 22 rfl w.heap.size 5 i0 (.int .u8 0) 1 Try.underlying22 hi hz0 hz1 hz2 rfl _ _ _ rfl (hv _ (by repeat (first | with_reducible exact Below.refl _ _ | with_reducible assumption | refine bgw ?_ (by first | (simp; done) | (simp; omega) | omega) _ | refine Below.setCell ?_ (by first | exact Nat.le_of_not_lt (by assumption) | (simp; done) | (simp; omega) | omega) _ | refine Below.alloc ?_ (by first | (simp; done) | (simp; omega) | omega) _ | refine Below.drew ?_))) _ _ _ [.int .u8 1] rfl (by omega) (by simp) (Cs.of_list (xs := [.int .u8 1]) (by repeat (first | with_reducible exact blk_new _ _ _ | ((with_reducible refine blk_at ?_); (simp; done)) | with_reducible apply blk_alloc | with_reducible apply blk_gw))) (fun u hu => by simp at hu; subst hu; rfl) (by first | (unfold maxLen; omega) | (unfold maxLen; simp; omega)) (by first | omega | (simp; omega)) (by omega) (by first | (simp; done) | (simp; omega) | omega) ?_; intro v3 w3 hown3 hb3; have hs3 := hb3.size; try simp at hs3))
  go_ret
  exact ⟨⟨v3, rfl, by simpa [yv, encBool] using hown3⟩, Below.trans (by repeat (first | with_reducible exact Below.refl _ _ | with_reducible assumption | refine bgw ?_ (by first | (simp; done) | (simp; omega) | omega) _ | refine Below.setCell ?_ (by first | exact Nat.le_of_not_lt (by assumption) | (simp; done) | (simp; omega) | omega) _ | refine Below.alloc ?_ (by first | (simp; done) | (simp; omega) | omega) _ | refine Below.drew ?_)) hb3⟩

theorem xas_b (A : Option Addr) (cap : Nat) (bs : List Int) (s : ByteArray) (hl : bs.length ≤ 1000000000) (hs : s.size ≤ 1000000000) (hA : A = none → cap = 0) (w : World) (hp : Byts w A bs) (hk : bs.length ≤ cap := by first | assumption | omega | (simp; done) | (simp; omega)) : Calls Try.prog 20 #[.slice A bs.length cap, .string s] w fun e w' => (∃ v, e = .returned v ∧ w'.ownsRow w.heap.size 5 1 v (bs.length + (encStr (nums s)).length) (yv (bs ++ (encStr (nums s))))) ∧ Below w.heap.size w w' := by
  obtain ⟨i0, hi, hz0, hz1, hz2⟩ := info_parts info_u8
  have h9 := enc_le (n := (s.size : Int)) (by omega) (by omega)
  have cA : ∀ w', Below w.heap.size w w' → Calls Try.prog 11 #[.slice A bs.length cap, .int .i64 s.size] w' fun e w'' => (∃ v, e = .returned v ∧ w''.ownsRow w'.heap.size 5 1 v (bs.length + (enc (s.size : Int)).length) (yv (bs ++ enc (s.size : Int)))) ∧ Below w'.heap.size w' w'' := fun w' hb => xai_b A cap bs s.size hl ⟨by omega, by omega⟩ hA w' (Cs.to hp hb)
  have hE : Hid (encStr (nums s) = enc (s.size : Int) ++ nums s) := by show _ = _; simp [encStr]
  have hlen : (encStr (nums s)).length = (enc (s.size : Int)).length + s.size := by rw [hE.out]; simp
  rw [hlen]
  clear hlen
  go_enter Try.func20, Try.ntmps20
  go_wp2_with (first
    | (go_at_call 11; refine Calls.mono (gw_ex (cA _ (by repeat (first | with_reducible exact Below.refl _ _ | with_reducible assumption | refine bgw ?_ (by first | (simp; done) | (simp; omega) | omega) _ | refine Below.setCell ?_ (by first | exact Nat.le_of_not_lt (by assumption) | (simp; done) | (simp; omega) | omega) _ | refine Below.alloc ?_ (by first | (simp; done) | (simp; omega) | omega) _ | refine Below.drew ?_)))) ?_; rintro e w1 ⟨⟨v', rfl, hown⟩, q, rfl⟩; obtain ⟨A', cap', rfl, hle, hmx, hnil, hcs⟩ := owns_sl hown)
    | (at_builtin; refine wpList_appS rfl (.tmp 8) (.tmp 9) 22 9 rfl w.heap.size 5 i0 Try.underlying22 Try.underlying9 hi hz0 hz1 hz2 _ _ _ rfl hown s rfl (by unfold maxLen; omega) (by omega) (by simp) ?_; intro v3 w3 hown3 hb3))
  go_ret
  refine ⟨⟨v3, rfl, ?_⟩, Below.trans (by repeat (first | with_reducible exact Below.refl _ _ | with_reducible assumption | refine bgw ?_ (by first | (simp; done) | (simp; omega) | omega) _ | refine Below.setCell ?_ (by first | exact Nat.le_of_not_lt (by assumption) | (simp; done) | (simp; omega) | omega) _ | refine Below.alloc ?_ (by first | (simp; done) | (simp; omega) | omega) _ | refine Below.drew ?_)) hb3⟩
  have := hown3
  rw [← yv_append, List.append_assoc, ← hE.out, Nat.add_assoc] at this
  exact this

theorem xais_b (A : Option Addr) (cap : Nat) (bs : List Int) (B : Option Addr) (cb : Nat) (ns : List Int) (hl : bs.length ≤ 100000000) (hn : ns.length ≤ 1000000) (hr : ∀ n ∈ ns, i64 n) (hA : A = none → cap = 0) (w : World) (hp : Byts w A bs) (hq : Ints w B ns) (hk : bs.length ≤ cap := by first | assumption | omega | (simp; done) | (simp; omega)) : Calls Try.prog 13 #[.slice A bs.length cap, .slice B ns.length cb] w fun e w' => (∃ v, e = .returned v ∧ w'.ownsRow w.heap.size 5 1 v (bs.length + (encInts ns).length) (yv (bs ++ (encInts ns)))) ∧ Below w.heap.size w w' := by
  have h9 := enc_le (n := (ns.length : Int)) (by omega) (by omega)
  have cA : ∀ w', Below w.heap.size w w' → Calls Try.prog 11 #[.slice A bs.length cap, .int .i64 ns.length] w' fun e w'' => (∃ v, e = .returned v ∧ w''.ownsRow w'.heap.size 5 1 v (bs.length + (enc (ns.length : Int)).length) (yv (bs ++ enc (ns.length : Int)))) ∧ Below w'.heap.size w' w'' := fun w' hb => xai_b A cap bs ns.length (by omega) ⟨by omega, by omega⟩ hA w' (Cs.to hp hb)
  have hE : Hid (encInts ns = enc (ns.length : Int) ++ encAll ns) := by show _ = _; rfl
  go_enter Try.func13, Try.ntmps13
  go_wp2_with (first
    | (go_at_call 11; refine Calls.mono (gw_ex (cA _ (by repeat (first | with_reducible exact Below.refl _ _ | with_reducible assumption | refine bgw ?_ (by first | (simp; done) | (simp; omega) | omega) _ | refine Below.setCell ?_ (by first | exact Nat.le_of_not_lt (by assumption) | (simp; done) | (simp; omega) | omega) _ | refine Below.alloc ?_ (by first | (simp; done) | (simp; omega) | omega) _ | refine Below.drew ?_)))) ?_; rintro e w1 ⟨⟨v', rfl, hown⟩, q, rfl⟩))
  go_loopw [0, 13] (fun v i wr => ∃ k : Nat, k ≤ ns.length ∧ i = .int .i64 k ∧ wr.ownsRow w.heap.size 5 1 v (bs.length + (enc (ns.length : Int) ++ encAll (ns.take k)).length) (yv (bs ++ (enc (ns.length : Int) ++ encAll (ns.take k)))) ∧ Below w.heap.size w wr)
    (fun _ i _ => (ns.length - intOf i).toNat)
  case atStart => exact ⟨0, by omega, rfl, by simpa [encAll] using hown, (by repeat (first | with_reducible exact Below.refl _ _ | with_reducible assumption | refine bgw ?_ (by first | (simp; done) | (simp; omega) | omega) _ | refine Below.setCell ?_ (by first | exact Nat.le_of_not_lt (by assumption) | (simp; done) | (simp; omega) | omega) _ | refine Below.alloc ?_ (by first | (simp; done) | (simp; omega) | omega) _ | refine Below.drew ?_))⟩
  case round =>
    obtain ⟨k, hk, rfl, hown, hbw⟩ := hrel
    have hsz := hbw.size
    by_cases hlt : k < ns.length
    · have j0 : (0 : Int) ≤ (k : Int) := by omega
      have i1 : (k : Int) < (ns.length : Int) := by omega
      obtain ⟨b, off, rfl, hce⟩ := Ints.open (hq.to hbw) (by omega)
      have d1 := hce k hlt
      have o1 := older_of_cell d1
      have hx := hr _ (List.getElem_mem hlt)
      have hsucc := encAll_succ hlt
      have hal := encAll_le (ns.take k) fun n hn => hr n (List.mem_of_mem_take hn)
      have htl : (ns.take k).length ≤ k := List.length_take_le _ _
      clear hce
      generalize ns[k] = x at *
      have h9x := enc_le hx.1 hx.2
      have cX := wri_b w.heap.size u0 (bs ++ (enc (ns.length : Int) ++ encAll (ns.take k))) x (by simp only [List.length_append]; omega) hx.1 hx.2 wr (.inl (by rw [List.length_append]; exact hown)) (by omega)
      go_wp2_with (first
        | (go_at_call 29; refine Calls.mono cX ?_; rintro e w1 ⟨⟨v', rfl, hown1⟩, hb1⟩))
      refine ⟨⟨k + 1, by omega, by go_num, ?_, Below.trans hbw hb1⟩, by (try go_num); simp [intOf]; (try omega)⟩
      have e1 : bs ++ (enc (ns.length : Int) ++ encAll (ns.take (k + 1))) = bs ++ (enc (ns.length : Int) ++ encAll (ns.take k)) ++ enc x := by rw [hsucc]; simp [List.append_assoc]
      have e2 : bs.length + (enc (ns.length : Int) ++ encAll (ns.take (k + 1))).length = (bs ++ (enc (ns.length : Int) ++ encAll (ns.take k))).length + (enc x).length := by rw [hsucc]; simp; omega
      rw [e1, e2]
      exact hown1
    · obtain rfl : k = ns.length := by omega
      have i1 : ¬ (ns.length : Int) < (ns.length : Int) := by omega
      rw [List.take_length, ← hE.out] at hown
      go_wp2_with fail
      go_ret
      exact ⟨⟨_, rfl, hown⟩, hbw⟩

theorem xav_b (A : Option Addr) (cap : Nat) (bs : List Int) (x y : Int) (hl : bs.length ≤ 100000000) (hx : i64 x) (hy : i64 y) (hA : A = none → cap = 0) (w : World) (hp : Byts w A bs) (hk : bs.length ≤ cap := by first | assumption | omega | (simp; done) | (simp; omega)) : Calls Try.prog 14 #[.slice A bs.length cap, .agg #[.int .i64 x, .int .i64 y]] w fun e w' => (∃ v, e = .returned v ∧ w'.ownsRow w.heap.size 5 1 v (bs.length + (enc x ++ enc y).length) (yv (bs ++ (enc x ++ enc y)))) ∧ Below w.heap.size w w' := by
  have hx8 : (enc x).length ≤ 9 := enc_le hx.1 hx.2
  have cA : ∀ w', Below w.heap.size w w' → Calls Try.prog 11 #[.slice A bs.length cap, .int .i64 x] w' fun e w'' => (∃ v, e = .returned v ∧ w''.ownsRow w'.heap.size 5 1 v (bs.length + (enc x).length) (yv (bs ++ enc x))) ∧ Below w'.heap.size w' w'' := fun w' hb => xai_b A cap bs x (by omega) hx hA w' (Cs.to hp hb)
  go_enter Try.func14, Try.ntmps14
  go_wp2_with fail
  refine wp_mix 6 [0, 0, 2, 7, 0, 16, 63, 127] [] [0, 1, 2, 3, 4, 5] (by kernel_rfl) (by kernel_rfl) ?_
  repeat (first | (refine mix_skip (by rfl) (by rfl) (by rfl) (by rfl) ?_) | (refine mix_early (by rfl) (by rfl) (by rfl) ?_; go_big_quiet_step (fail); with_reducible refine wpQuiet_nil ?_) | (refine mix_late (by rfl) (by rfl) (by rfl) ?_; go_big_quiet_step (fail); with_reducible refine wpQuiet_nil ?_) | (refine mix_call (by rfl) (by rfl) (by rfl) ?_; intro pM Qs hQs; go_wp2_with (go_at_call 11; refine Calls.mono (gw_ex (cA _ (by repeat (first | with_reducible exact Below.refl _ _ | with_reducible assumption | refine bgw ?_ (by first | (simp; done) | (simp; omega) | omega) _ | refine Below.setCell ?_ (by first | exact Nat.le_of_not_lt (by assumption) | (simp; done) | (simp; omega) | omega) _ | refine Below.alloc ?_ (by first | (simp; done) | (simp; omega) | omega) _ | refine Below.drew ?_)))) ?_; rintro e w1 ⟨⟨v', rfl, hown⟩, q, rfl⟩); refine hQs _ _ (by repeat (first | with_reducible exact Below.refl _ _ | with_reducible assumption | refine bgw ?_ (by first | (simp; done) | (simp; omega) | omega) _ | refine Below.setCell ?_ (by first | exact Nat.le_of_not_lt (by assumption) | (simp; done) | (simp; omega) | omega) _ | refine Below.alloc ?_ (by first | (simp; done) | (simp; omega) | omega) _ | refine Below.drew ?_)) ?_))
  refine mix_end ?_
  intro pE
  simp only [List.drop_succ_cons, List.drop_zero]
  go_wp2_with (go_at_call 29; refine Calls.mono (wri_b w.heap.size _ (bs ++ enc x) y (by simp; omega) hy.1 hy.2 _ (.inl (by rw [List.length_append]; exact owns_mono (owns_below hown (by repeat (first | with_reducible exact Below.refl _ _ | with_reducible assumption | refine bgw ?_ (by first | (simp; done) | (simp; omega) | omega) _ | refine Below.setCell ?_ (by first | exact Nat.le_of_not_lt (by assumption) | (simp; done) | (simp; omega) | omega) _ | refine Below.alloc ?_ (by first | (simp; done) | (simp; omega) | omega) _ | refine Below.drew ?_))) (by simp; omega))) (by simp; omega)) ?_; rintro e w1 ⟨⟨v2, rfl, hown1⟩, hb1⟩)
  go_ret
  refine ⟨⟨v2, rfl, ?_⟩, Below.trans (by repeat (first | with_reducible exact Below.refl _ _ | with_reducible assumption | refine bgw ?_ (by first | (simp; done) | (simp; omega) | omega) _ | refine Below.setCell ?_ (by first | exact Nat.le_of_not_lt (by assumption) | (simp; done) | (simp; omega) | omega) _ | refine Below.alloc ?_ (by first | (simp; done) | (simp; omega) | omega) _ | refine Below.drew ?_)) hb1⟩
  simpa [List.append_assoc, Nat.add_assoc] using hown1

end Go.Proofs.Ytgpcldhgkaddeaa
