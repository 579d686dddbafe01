/- Contracts of the reference of chapter 7. -/
import Derived.Test.YtgpcldhgkaddeaaChecked
import Derived.Test.YtgpcldhgkaddeaaFld
import Derived.Test.YtgpcldhgkaddeaaMix
import Derived.Test.YtgpcldhgkaddeaaByt
import Derived.Test.YtgpcldhgkaddeaaBy
set_option linter.unusedVariables false
namespace Go.Proofs.Ytgpcldhgkaddeaa
open Go.RowKit By

theorem info_u8 : (Try.prog.info? 5).map (fun i => (i.zero, i.size, i.bytes)) = some (some (.int .u8 0), 1, 1) := by kernel_rfl

theorem rabs_b (n : Int) (h0 : -9223372036854775808 ≤ n) (h1 : n ≤ 9223372036854775807) (w : World) : Calls Try.prog 37 #[.int .i64 n] w fun e w' => e = .returned (.int .u64 (n.natAbs : Nat)) ∧ Below w.heap.size w w' := by
  by_cases hn : n < 0
  focus
    rw [show (n.natAbs : Int) = -(n + 1) + 1 from by omega]
    go_enter Try.func37, Try.ntmps37
    go_wp2_with fail
    go_ret
    exact ⟨rfl, (by repeat (first | with_reducible exact Below.refl _ _ | with_reducible assumption | refine bgw ?_ (by first | (simp; done) | (simp; omega) | omega) _ | refine Below.setCell ?_ (by first | exact Nat.le_of_not_lt (by assumption) | (simp; done) | (simp; omega) | omega) _ | refine Below.alloc ?_ (by first | (simp; done) | (simp; omega) | omega) _ | refine Below.drew ?_))⟩
  rw [show (n.natAbs : Int) = n from by omega]
  go_enter Try.func37, Try.ntmps37
  go_wp2_with fail
  go_ret
  exact ⟨rfl, (by repeat (first | with_reducible exact Below.refl _ _ | with_reducible assumption | refine bgw ?_ (by first | (simp; done) | (simp; omega) | omega) _ | refine Below.setCell ?_ (by first | exact Nat.le_of_not_lt (by assumption) | (simp; done) | (simp; omega) | omega) _ | refine Below.alloc ?_ (by first | (simp; done) | (simp; omega) | omega) _ | refine Below.drew ?_))⟩

theorem rai_b (A : Option Addr) (cap : Nat) (bs : List Int) (n : Int) (hl : bs.length ≤ 1073741824) (h0 : -9223372036854775808 ≤ n) (h1 : n ≤ 9223372036854775807) (hA : A = none → cap = 0) (w : World) (hp : Byts w A bs) : Calls Try.prog 35 #[.slice A bs.length cap, .int .i64 n] w fun e w' => (∃ v, e = .returned v ∧ w'.ownsRow w.heap.size 5 1 v (bs ++ enc n).length (yv (bs ++ enc n))) ∧ Below w.heap.size w w' := by
  obtain ⟨i0, hi, hz0, hz1, hz2⟩ := info_parts info_u8
  have hd8 := dig8 h0 h1
  obtain ⟨E, hE⟩ : ∃ E, bs ++ enc n = E := ⟨_, rfl⟩
  rw [hE]
  go_enter Try.func35, Try.ntmps35
  go_wp2_with (first | (go_at_call 37; refine Calls.mono (gw_at (rabs_b _ (by omega) (by omega) _)) ?_; rintro e w1 ⟨rfl, q, rfl⟩))
  go_loopw [5, 6] (fun v ms wr => ∃ (m : Nat) (r : List Int), ms = .int .u64 (m : Int) ∧ m < 18446744073709551616 ∧ dig m ++ r = dig n.natAbs ∧ wr.ownsRow w.heap.size 5 1 v r.length (yv r) ∧ Below w.heap.size w wr)
    (fun _ ms _ => (intOf ms).toNat)
  case atStart => exact ⟨n.natAbs, [], rfl, by omega, by simp, owns_nil _ _ _, (by repeat (first | with_reducible exact Below.refl _ _ | with_reducible assumption | refine bgw ?_ (by first | (simp; done) | (simp; omega) | omega) _ | refine Below.setCell ?_ (by first | exact Nat.le_of_not_lt (by assumption) | (simp; done) | (simp; omega) | omega) _ | refine Below.alloc ?_ (by first | (simp; done) | (simp; omega) | omega) _ | refine Below.drew ?_))⟩
  case round =>
    obtain ⟨m, r, rfl, hm, hr, hown, hbw⟩ := hrel
    have hsz := hbw.size
    obtain ⟨X, c, rfl, hc1, hc2, hX, hcs⟩ := owns_sl hown
    have hrl : r.length ≤ 8 := by have := congrArg List.length hr; simp at this; omega
    by_cases hm0 : m = 0
    focus
      subst hm0
      rw [dig_zero, List.nil_append] at hr
      subst hr
      have hhd : hdr n = ((dig n.natAbs).length : Int) + if n < 0 then 16 else 0 := rfl
      by_cases hn : n < 0
      focus
        rw [if_pos hn] at hhd
        have hE' : Hid (E = bs ++ [((dig n.natAbs).length : Int) + 16] ++ dig n.natAbs) := by show _ = _; rw [← hE]; simp [enc, hhd]
        clear hE
        go_wp2_with (first
          | (at_builtin; refine wpList_appN rfl (.tmp 28) (.tmp 29) 22 rfl wr.heap.size 5 i0 (.int .u8 0) 1 Try.underlying22 hi hz0 hz1 hz2 rfl _ _ _ rfl (owns_lit (xs := []) (by repeat (first | with_reducible exact blk_new _ _ _ | ((with_reducible refine blk_at ?_); (simp; done)) | with_reducible apply blk_alloc | with_reducible apply blk_gw)) rfl (by first | (simp; done) | (simp; omega) | omega) (by decide)) _ _ _ (yv bs) rfl hA (by simp) (Cs.to hp (by repeat (first | with_reducible exact Below.refl _ _ | with_reducible assumption | refine bgw ?_ (by first | (simp; done) | (simp; omega) | omega) _ | refine Below.setCell ?_ (by first | exact Nat.le_of_not_lt (by assumption) | (simp; done) | (simp; omega) | omega) _ | refine Below.alloc ?_ (by first | (simp; done) | (simp; omega) | omega) _ | refine Below.drew ?_))) (fun u hu => by first | exact yv_one _ u hu | (simp at hu; subst hu; rfl)) (by first | (unfold maxLen; omega) | (unfold maxLen; simp; omega)) (by first | omega | (simp; omega)) (by first | (simp; done) | (simp; omega) | omega) ?_; intro v3 w3 hown3 hb3; have hs3 := hb3.size; try simp at hs3)
          | (at_builtin; refine wpList_appN rfl (.tmp 31) (.tmp 33) 22 rfl wr.heap.size 5 i0 (.int .u8 0) 1 Try.underlying22 hi hz0 hz1 hz2 rfl _ _ _ rfl (owns_below hown3 (by repeat (first | with_reducible exact Below.refl _ _ | with_reducible assumption | refine bgw ?_ (by first | (simp; done) | (simp; omega) | omega) _ | refine Below.setCell ?_ (by first | exact Nat.le_of_not_lt (by assumption) | (simp; done) | (simp; omega) | omega) _ | refine Below.alloc ?_ (by first | (simp; done) | (simp; omega) | omega) _ | refine Below.drew ?_))) _ _ _ [.int .u8 (((dig n.natAbs).length : Int) + 16)] rfl (fun h => by cases h) (by simp) (Cs.of_list (xs := [.int .u8 (((dig n.natAbs).length : Int) + 16)]) (by repeat (first | with_reducible exact blk_new _ _ _ | ((with_reducible refine blk_at ?_); (simp; done)) | with_reducible apply blk_alloc | with_reducible apply blk_gw))) (fun u hu => by first | exact yv_one _ u hu | (simp at hu; subst hu; rfl)) (by first | (unfold maxLen; omega) | (unfold maxLen; simp; omega)) (by first | omega | (simp; omega)) (by first | (simp; done) | (simp; omega) | omega) ?_; intro v4 w4 hown4 hb4; have hs4 := hb4.size; try simp at hs4)
          | (at_builtin; refine wpList_appN rfl (.tmp 34) (.tmp 35) 22 rfl wr.heap.size 5 i0 (.int .u8 0) 1 Try.underlying22 hi hz0 hz1 hz2 rfl _ _ _ rfl hown4 _ _ _ (yv (dig n.natAbs)) rfl hX (by simp) (Cs.to hcs (Below.trans (Below.trans (by repeat (first | with_reducible exact Below.refl _ _ | with_reducible assumption | refine bgw ?_ (by first | (simp; done) | (simp; omega) | omega) _ | refine Below.setCell ?_ (by first | exact Nat.le_of_not_lt (by assumption) | (simp; done) | (simp; omega) | omega) _ | refine Below.alloc ?_ (by first | (simp; done) | (simp; omega) | omega) _ | refine Below.drew ?_)) hb3) (Below.trans (by repeat (first | with_reducible exact Below.refl _ _ | with_reducible assumption | refine bgw ?_ (by first | (simp; done) | (simp; omega) | omega) _ | refine Below.setCell ?_ (by first | exact Nat.le_of_not_lt (by assumption) | (simp; done) | (simp; omega) | omega) _ | refine Below.alloc ?_ (by first | (simp; done) | (simp; omega) | omega) _ | refine Below.drew ?_)) hb4))) (fun u hu => by first | exact yv_one _ u hu | (simp at hu; subst hu; rfl)) (by first | (unfold maxLen; omega) | (unfold maxLen; simp; omega)) (by first | omega | (simp; omega)) (by first | (simp; done) | (simp; omega) | omega) ?_; intro v5 w5 hown5 hb5; have hs5 := hb5.size; try simp at hs5)
          | (first | (go_at_call 37; refine Calls.mono (gw_at (rabs_b _ (by omega) (by omega) _)) ?_; rintro e w1 ⟨rfl, q, rfl⟩)))
        have hf : w5.ownsRow wr.heap.size 5 1 v5 E.length (yv E) := by obtain rfl := hE'.out; simpa [yv, Nat.add_assoc, Nat.add_comm 1] using hown5
        go_ret
        exact ⟨⟨v5, rfl, owns_mono hf hsz⟩, Below.trans hbw (Below.mono (Below.trans (Below.trans (Below.trans (by repeat (first | with_reducible exact Below.refl _ _ | with_reducible assumption | refine bgw ?_ (by first | (simp; done) | (simp; omega) | omega) _ | refine Below.setCell ?_ (by first | exact Nat.le_of_not_lt (by assumption) | (simp; done) | (simp; omega) | omega) _ | refine Below.alloc ?_ (by first | (simp; done) | (simp; omega) | omega) _ | refine Below.drew ?_)) hb3) (Below.trans (by repeat (first | with_reducible exact Below.refl _ _ | with_reducible assumption | refine bgw ?_ (by first | (simp; done) | (simp; omega) | omega) _ | refine Below.setCell ?_ (by first | exact Nat.le_of_not_lt (by assumption) | (simp; done) | (simp; omega) | omega) _ | refine Below.alloc ?_ (by first | (simp; done) | (simp; omega) | omega) _ | refine Below.drew ?_)) hb4)) hb5) hsz)⟩
      rw [if_neg hn, Int.add_zero] at hhd
      have hE' : Hid (E = bs ++ [((dig n.natAbs).length : Int)] ++ dig n.natAbs) := by show _ = _; rw [← hE]; simp [enc, hhd]
      clear hE
      go_wp2_with (first
        | (at_builtin; refine wpList_appN rfl (.tmp 28) (.tmp 29) 22 rfl wr.heap.size 5 i0 (.int .u8 0) 1 Try.underlying22 hi hz0 hz1 hz2 rfl _ _ _ rfl (owns_lit (xs := []) (by repeat (first | with_reducible exact blk_new _ _ _ | ((with_reducible refine blk_at ?_); (simp; done)) | with_reducible apply blk_alloc | with_reducible apply blk_gw)) rfl (by first | (simp; done) | (simp; omega) | omega) (by decide)) _ _ _ (yv bs) rfl hA (by simp) (Cs.to hp (by repeat (first | with_reducible exact Below.refl _ _ | with_reducible assumption | refine bgw ?_ (by first | (simp; done) | (simp; omega) | omega) _ | refine Below.setCell ?_ (by first | exact Nat.le_of_not_lt (by assumption) | (simp; done) | (simp; omega) | omega) _ | refine Below.alloc ?_ (by first | (simp; done) | (simp; omega) | omega) _ | refine Below.drew ?_))) (fun u hu => by first | exact yv_one _ u hu | (simp at hu; subst hu; rfl)) (by first | (unfold maxLen; omega) | (unfold maxLen; simp; omega)) (by first | omega | (simp; omega)) (by first | (simp; done) | (simp; omega) | omega) ?_; intro v3 w3 hown3 hb3; have hs3 := hb3.size; try simp at hs3)
        | (at_builtin; refine wpList_appN rfl (.tmp 31) (.tmp 33) 22 rfl wr.heap.size 5 i0 (.int .u8 0) 1 Try.underlying22 hi hz0 hz1 hz2 rfl _ _ _ rfl (owns_below hown3 (by repeat (first | with_reducible exact Below.refl _ _ | with_reducible assumption | refine bgw ?_ (by first | (simp; done) | (simp; omega) | omega) _ | refine Below.setCell ?_ (by first | exact Nat.le_of_not_lt (by assumption) | (simp; done) | (simp; omega) | omega) _ | refine Below.alloc ?_ (by first | (simp; done) | (simp; omega) | omega) _ | refine Below.drew ?_))) _ _ _ [.int .u8 ((dig n.natAbs).length : Int)] rfl (fun h => by cases h) (by simp) (Cs.of_list (xs := [.int .u8 ((dig n.natAbs).length : Int)]) (by repeat (first | with_reducible exact blk_new _ _ _ | ((with_reducible refine blk_at ?_); (simp; done)) | with_reducible apply blk_alloc | with_reducible apply blk_gw))) (fun u hu => by first | exact yv_one _ u hu | (simp at hu; subst hu; rfl)) (by first | (unfold maxLen; omega) | (unfold maxLen; simp; omega)) (by first | omega | (simp; omega)) (by first | (simp; done) | (simp; omega) | omega) ?_; intro v4 w4 hown4 hb4; have hs4 := hb4.size; try simp at hs4)
        | (at_builtin; refine wpList_appN rfl (.tmp 34) (.tmp 35) 22 rfl wr.heap.size 5 i0 (.int .u8 0) 1 Try.underlying22 hi hz0 hz1 hz2 rfl _ _ _ rfl hown4 _ _ _ (yv (dig n.natAbs)) rfl hX (by simp) (Cs.to hcs (Below.trans (Below.trans (by repeat (first | with_reducible exact Below.refl _ _ | with_reducible assumption | refine bgw ?_ (by first | (simp; done) | (simp; omega) | omega) _ | refine Below.setCell ?_ (by first | exact Nat.le_of_not_lt (by assumption) | (simp; done) | (simp; omega) | omega) _ | refine Below.alloc ?_ (by first | (simp; done) | (simp; omega) | omega) _ | refine Below.drew ?_)) hb3) (Below.trans (by repeat (first | with_reducible exact Below.refl _ _ | with_reducible assumption | refine bgw ?_ (by first | (simp; done) | (simp; omega) | omega) _ | refine Below.setCell ?_ (by first | exact Nat.le_of_not_lt (by assumption) | (simp; done) | (simp; omega) | omega) _ | refine Below.alloc ?_ (by first | (simp; done) | (simp; omega) | omega) _ | refine Below.drew ?_)) hb4))) (fun u hu => by first | exact yv_one _ u hu | (simp at hu; subst hu; rfl)) (by first | (unfold maxLen; omega) | (unfold maxLen; simp; omega)) (by first | omega | (simp; omega)) (by first | (simp; done) | (simp; omega) | omega) ?_; intro v5 w5 hown5 hb5; have hs5 := hb5.size; try simp at hs5)
        | (first | (go_at_call 37; refine Calls.mono (gw_at (rabs_b _ (by omega) (by omega) _)) ?_; rintro e w1 ⟨rfl, q, rfl⟩)))
      have hf : w5.ownsRow wr.heap.size 5 1 v5 E.length (yv E) := by obtain rfl := hE'.out; simpa [yv, Nat.add_assoc, Nat.add_comm 1] using hown5
      go_ret
      exact ⟨⟨v5, rfl, owns_mono hf hsz⟩, Below.trans hbw (Below.mono (Below.trans (Below.trans (Below.trans (by repeat (first | with_reducible exact Below.refl _ _ | with_reducible assumption | refine bgw ?_ (by first | (simp; done) | (simp; omega) | omega) _ | refine Below.setCell ?_ (by first | exact Nat.le_of_not_lt (by assumption) | (simp; done) | (simp; omega) | omega) _ | refine Below.alloc ?_ (by first | (simp; done) | (simp; omega) | omega) _ | refine Below.drew ?_)) hb3) (Below.trans (by repeat (first | with_reducible exact Below.refl _ _ | with_reducible assumption | refine bgw ?_ (by first | (simp; done) | (simp; omega) | omega) _ | refine Below.setCell ?_ (by first | exact Nat.le_of_not_lt (by assumption) | (simp; done) | (simp; omega) | omega) _ | refine Below.alloc ?_ (by first | (simp; done) | (simp; omega) | omega) _ | refine Below.drew ?_)) hb4)) hb5) hsz)⟩
    have hmp : (0 : Int) < (m : Int) := by omega
    go_wp2_with (first
      | (at_builtin; refine wpList_appN rfl (.tmp 18) (.tmp 19) 22 rfl w.heap.size 5 i0 (.int .u8 0) 1 Try.underlying22 hi hz0 hz1 hz2 rfl _ _ _ rfl (owns_lit (xs := [.int .u8 ((m : Int) % 256)]) (by repeat (first | with_reducible exact blk_new _ _ _ | ((with_reducible refine blk_at ?_); (simp; done)) | with_reducible apply blk_alloc | with_reducible apply blk_gw)) (by simp) (by first | (simp; done) | (simp; omega) | omega) (by decide)) _ _ _ (yv r) rfl hX (by simp) (Cs.to hcs (by repeat (first | with_reducible exact Below.refl _ _ | with_reducible assumption | refine bgw ?_ (by first | (simp; done) | (simp; omega) | omega) _ | refine Below.setCell ?_ (by first | exact Nat.le_of_not_lt (by assumption) | (simp; done) | (simp; omega) | omega) _ | refine Below.alloc ?_ (by first | (simp; done) | (simp; omega) | omega) _ | refine Below.drew ?_))) (yv_one _) (by first | (unfold maxLen; omega) | (unfold maxLen; simp; omega)) (by first | omega | (simp; omega)) (by first | (simp; done) | (simp; omega) | omega) ?_; intro v' w2 hown2 hb2)
      | (first | (go_at_call 37; refine Calls.mono (gw_at (rabs_b _ (by omega) (by omega) _)) ?_; rintro e w1 ⟨rfl, q, rfl⟩)))
    refine ⟨⟨m / 256, (m : Int) % 256 :: r, by go_num, by omega, ?_, ?_, Below.trans (by repeat (first | with_reducible exact Below.refl _ _ | with_reducible assumption | refine bgw ?_ (by first | (simp; done) | (simp; omega) | omega) _ | refine Below.setCell ?_ (by first | exact Nat.le_of_not_lt (by assumption) | (simp; done) | (simp; omega) | omega) _ | refine Below.alloc ?_ (by first | (simp; done) | (simp; omega) | omega) _ | refine Below.drew ?_)) hb2⟩, by simp [intOf]; omega⟩
    · rw [← hr, dig_pos hm0]; simp
    · simpa [yv, Nat.add_comm] using hown2

/-- The same with the length under a name (a walk writes the length of 'a ++ b' as a sum), out of an earlier world. -/
theorem rai_g (A : Option Addr) (cap L : Nat) (bs : List Int) (n : Int) (w0 w : World) (hp : Byts w0 A bs) (hb : Below w0.heap.size w0 w) (hL : bs.length = L) (hl : L ≤ 1073741824) (h0 : -9223372036854775808 ≤ n) (h1 : n ≤ 9223372036854775807) (hA : A = none → cap = 0) : Calls Try.prog 35 #[.slice A L cap, .int .i64 n] w fun e w' => (∃ v, e = .returned v ∧ w'.ownsRow w.heap.size 5 1 v (L + (enc n).length) (yv (bs ++ enc n))) ∧ Below w.heap.size w w' := by
  subst hL
  have := rai_b A cap bs n hl h0 h1 hA w (Cs.to hp hb)
  rw [List.length_append] at this
  exact this

set_option maxRecDepth 100000 in
set_option maxHeartbeats 4000000 in
theorem rri_b (A : Option Addr) (cap : Nat) (bs : List Int) (p : Int) (hB : isB bs) (hl : bs.length ≤ 1073741824) (w : World) (hp : Byts w A bs) : Calls Try.prog 24 #[.slice A bs.length cap, .int .i64 p] w fun e w' => e = .returned (.tuple #[.int .i64 (rdInt bs p).1, .int .i64 (rdInt bs p).2.1, .int .i64 (rdInt bs p).2.2]) ∧ Below w.heap.size w w' := by
  by_cases hp0 : p < 0
  focus
    rw [show rdInt bs p = (0, 0, 2) from if_pos (.inl hp0)]
    go_enter Try.func24, Try.ntmps24
    go_wp2_with fail
    exact bodyPost_ret (v := .tuple #[.int .i64 0, .int .i64 0, .int .i64 2]) (by simp [results, Try.results24, go_sem]) rfl ⟨rfl, (by repeat (first | with_reducible exact Below.refl _ _ | with_reducible assumption | refine bgw ?_ (by first | (simp; done) | (simp; omega) | omega) _ | refine Below.setCell ?_ (by first | exact Nat.le_of_not_lt (by assumption) | (simp; done) | (simp; omega) | omega) _ | refine Below.alloc ?_ (by first | (simp; done) | (simp; omega) | omega) _ | refine Below.drew ?_))⟩
  by_cases hp1 : (bs.length : Int) < p
  focus
    rw [show rdInt bs p = (0, 0, 2) from if_pos (.inr hp1)]
    go_enter Try.func24, Try.ntmps24
    go_wp2_with fail
    exact bodyPost_ret (v := .tuple #[.int .i64 0, .int .i64 0, .int .i64 2]) (by simp [results, Try.results24, go_sem]) rfl ⟨rfl, (by repeat (first | with_reducible exact Below.refl _ _ | with_reducible assumption | refine bgw ?_ (by first | (simp; done) | (simp; omega) | omega) _ | refine Below.setCell ?_ (by first | exact Nat.le_of_not_lt (by assumption) | (simp; done) | (simp; omega) | omega) _ | refine Below.alloc ?_ (by first | (simp; done) | (simp; omega) | omega) _ | refine Below.drew ?_))⟩
  by_cases hp2 : p = bs.length
  focus
    subst hp2
    rw [show rdInt bs bs.length = (0, 0, 4) from by unfold rdInt; rw [if_neg (by omega), if_pos rfl]]
    go_enter Try.func24, Try.ntmps24
    go_wp2_with fail
    exact bodyPost_ret (v := .tuple #[.int .i64 0, .int .i64 0, .int .i64 4]) (by simp [results, Try.results24, go_sem]) rfl ⟨rfl, (by repeat (first | with_reducible exact Below.refl _ _ | with_reducible assumption | refine bgw ?_ (by first | (simp; done) | (simp; omega) | omega) _ | refine Below.setCell ?_ (by first | exact Nat.le_of_not_lt (by assumption) | (simp; done) | (simp; omega) | omega) _ | refine Below.alloc ?_ (by first | (simp; done) | (simp; omega) | omega) _ | refine Below.drew ?_))⟩
  obtain ⟨q, rfl⟩ : ∃ q : Nat, p = q := ⟨p.toNat, by omega⟩
  have hq : q < bs.length := by omega
  have q0 : (0 : Int) ≤ (q : Int) := by omega
  have q1 : (q : Int) < (bs.length : Int) := by omega
  have q2 : ((q : Int) == (bs.length : Int)) = false := by rw [beq_eq_false_iff_ne]; omega
  obtain ⟨b, off, rfl, hce⟩ := Byts.open hp (by omega)
  have d1 := hce q hq
  have hob := World.block_lt_of_cell? w ⟨b, off + q, none⟩ d1
  obtain ⟨h0, h1⟩ := hB _ (List.getElem_mem hq)
  have hR : rdInt bs q = (let h := bs[q]; let k := if 16 ≤ h then h - 16 else h
      if 8 < k ∨ (16 ≤ h ∧ k = 0) then (0, 0, 3) else if (bs.length : Int) - q - 1 < k then (0, 0, 4) else
      let m : Int := und ((bs.drop (q + 1)).take k.toNat)
      if (0 < k ∧ bs.getD (q + 1) 0 = 0) ∨ (¬ 16 ≤ h ∧ 9223372036854775807 < m) ∨ (16 ≤ h ∧ 9223372036854775808 < m) then (0, 0, 3)
      else (if 16 ≤ h then -m else m, q + 1 + k, 0)) := by
    unfold rdInt
    rw [if_neg (by omega), if_neg (by omega)]
    simp only [Int.toNat_natCast, List.getD_eq_getElem?_getD, List.getElem?_eq_getElem hq, Option.getD_some]
  generalize hh : bs[q] = h at *
  simp only at hR
  by_cases h16 : 16 ≤ h
  focus
    rw [if_pos h16, if_pos h16] at hR
    obtain ⟨k, rfl⟩ : ∃ k : Nat, h = (k : Int) + 16 := ⟨(h - 16).toNat, by omega⟩
    rw [show (k : Int) + 16 - 16 = k from by omega] at hR
    by_cases h8 : 8 < k
    focus
      rw [hR, if_pos (.inl (by omega))]
      have h9 : (8 : Int) < (k : Int) := by omega
      go_enter Try.func24, Try.ntmps24
      go_wp2_with fail
      exact bodyPost_ret (v := .tuple #[.int .i64 0, .int .i64 0, .int .i64 3]) (by simp [results, Try.results24, go_sem]) rfl ⟨rfl, (by repeat (first | with_reducible exact Below.refl _ _ | with_reducible assumption | refine bgw ?_ (by first | (simp; done) | (simp; omega) | omega) _ | refine Below.setCell ?_ (by first | exact Nat.le_of_not_lt (by assumption) | (simp; done) | (simp; omega) | omega) _ | refine Below.alloc ?_ (by first | (simp; done) | (simp; omega) | omega) _ | refine Below.drew ?_))⟩
    by_cases hk0 : k = 0
    focus
      subst hk0
      rw [hR, if_pos (.inr ⟨by omega, rfl⟩)]
      go_enter Try.func24, Try.ntmps24
      go_wp2_with fail
      exact bodyPost_ret (v := .tuple #[.int .i64 0, .int .i64 0, .int .i64 3]) (by simp [results, Try.results24, go_sem]) rfl ⟨rfl, (by repeat (first | with_reducible exact Below.refl _ _ | with_reducible assumption | refine bgw ?_ (by first | (simp; done) | (simp; omega) | omega) _ | refine Below.setCell ?_ (by first | exact Nat.le_of_not_lt (by assumption) | (simp; done) | (simp; omega) | omega) _ | refine Below.alloc ?_ (by first | (simp; done) | (simp; omega) | omega) _ | refine Below.drew ?_))⟩
    have h9 : ¬ (8 : Int) < (k : Int) := by omega
    have hk1 : ((k : Int) == 0) = false := by rw [beq_eq_false_iff_ne]; omega
    rw [if_neg (by omega)] at hR
    by_cases hsh : (bs.length : Int) - q - 1 < k
    focus
      rw [hR, if_pos hsh]
      go_enter Try.func24, Try.ntmps24
      go_wp2_with fail
      exact bodyPost_ret (v := .tuple #[.int .i64 0, .int .i64 0, .int .i64 4]) (by simp [results, Try.results24, go_sem]) rfl ⟨rfl, (by repeat (first | with_reducible exact Below.refl _ _ | with_reducible assumption | refine bgw ?_ (by first | (simp; done) | (simp; omega) | omega) _ | refine Below.setCell ?_ (by first | exact Nat.le_of_not_lt (by assumption) | (simp; done) | (simp; omega) | omega) _ | refine Below.alloc ?_ (by first | (simp; done) | (simp; omega) | omega) _ | refine Below.drew ?_))⟩
    rw [if_neg hsh, Int.toNat_natCast] at hR
    obtain ⟨⟨R1, R2, R3⟩, hRR⟩ : ∃ R, rdInt bs q = R := ⟨_, rfl⟩
    rw [hRR]
    have hR' := hRR.symm.trans hR
    clear hR hRR
    have hR2 : Hid (_) := hR'
    clear hR'
    have hds : isB (bs.drop (q + 1)) := fun y hy => hB y (List.mem_of_mem_drop hy)
    have hdl : (bs.drop (q + 1)).length = bs.length - (q + 1) := List.length_drop
    go_enter Try.func24, Try.ntmps24
    go_wp2_with fail
    go_loopw [9, 10] (fun ms i wr => ∃ j : Nat, j ≤ k ∧ i = .int .i64 ((j : Int) + 1) ∧ ms = .int .u64 (und ((bs.drop (q + 1)).take j) : Nat) ∧ Below w.heap.size w wr)
      (fun _ i _ => (k + 1 - intOf i).toNat)
    case atStart => exact ⟨0, by omega, rfl, by simp [und], (by repeat (first | with_reducible exact Below.refl _ _ | with_reducible assumption | refine bgw ?_ (by first | (simp; done) | (simp; omega) | omega) _ | refine Below.setCell ?_ (by first | exact Nat.le_of_not_lt (by assumption) | (simp; done) | (simp; omega) | omega) _ | refine Below.alloc ?_ (by first | (simp; done) | (simp; omega) | omega) _ | refine Below.drew ?_))⟩
    case round =>
      obtain ⟨j, hj, rfl, rfl, hbw⟩ := hrel
      by_cases hjk : j < k
      focus
        have hjd : j < (bs.drop (q + 1)).length := by omega
        have i0 : (0 : Int) ≤ (q : Int) + ((j : Int) + 1) := by omega
        have i1 : (q : Int) + ((j : Int) + 1) < (bs.length : Int) := by omega
        have i2 : (j : Int) + 1 ≤ (k : Int) := by omega
        have hul : und ((bs.drop (q + 1)).take j) < 72057594037927936 := by
          have g1 := und_lt ((bs.drop (q + 1)).take j) fun y hy => hds y (List.mem_of_mem_take hy)
          have g2 : ((bs.drop (q + 1)).take j).length ≤ 7 := by rw [List.length_take]; omega
          have g3 : 256 ^ ((bs.drop (q + 1)).take j).length ≤ 256 ^ 7 := Nat.pow_le_pow_right (by omega) g2
          have g4 : (256 : Nat) ^ 7 = 72057594037927936 := by decide
          omega
        have hus := und_take_succ hjd
        have eb : (bs.drop (q + 1))[j] = bs[q + (j + 1)]'(by omega) := by rw [List.getElem_drop]; congr 1; omega
        rw [eb] at hus
        have d2 : wr.cell? ⟨b, off + (q + (j + 1)), none⟩ = some (.int .u8 (bs[q + (j + 1)]'(by omega))) := (hbw.cell (p := ⟨b, off + (q + (j + 1)), none⟩) hob).trans (hce (q + (j + 1)) (by omega))
        obtain ⟨x0, x1⟩ := hB _ (List.getElem_mem (show q + (j + 1) < bs.length by omega))
        generalize hx : bs[q + (j + 1)] = x at *
        generalize hu : und ((bs.drop (q + 1)).take j) = u at *
        have u0 : (0 : Int) ≤ (u : Int) := by omega
        have u1 : (u : Int) < 72057594037927936 := by omega
        go_wp2_with fail
        refine ⟨⟨j + 1, by omega, by go_num, ?_, (by repeat (first | with_reducible exact Below.refl _ _ | with_reducible assumption | refine bgw ?_ (by first | (simp; done) | (simp; omega) | omega) _ | refine Below.setCell ?_ (by first | exact Nat.le_of_not_lt (by assumption) | (simp; done) | (simp; omega) | omega) _ | refine Below.alloc ?_ (by first | (simp; done) | (simp; omega) | omega) _ | refine Below.drew ?_))⟩, by (try go_num); simp [intOf]; (try omega)⟩
        rw [hus]; go_num
      obtain rfl : j = k := by omega
      have i2 : ¬ (j : Int) + 1 ≤ (j : Int) := by omega
      have hdk : ((bs.drop (q + 1)).take j).length = j := by rw [List.length_take]; omega
      have hm64 : und ((bs.drop (q + 1)).take j) < 18446744073709551616 := by
        have g1 := und_lt ((bs.drop (q + 1)).take j) fun y hy => hds y (List.mem_of_mem_take hy)
        have g3 : 256 ^ ((bs.drop (q + 1)).take j).length ≤ 256 ^ 8 := Nat.pow_le_pow_right (by omega) (by omega)
        have g4 : (256 : Nat) ^ 8 = 18446744073709551616 := by decide
        omega
      have hmz : j = 0 → und ((bs.drop (q + 1)).take j) = 0 := fun h => by rw [h]; simp [und]
      have hm1 : (h1 : 0 < j) → 0 < bs.getD (q + 1) 0 → 1 ≤ und ((bs.drop (q + 1)).take j) := fun h1 h2 => und_first (by omega) (by rw [List.getElem_drop]; simpa [List.getD_eq_getElem?_getD, List.getElem?_eq_getElem (show q + 1 < bs.length by omega)] using h2) j h1 (by omega)
      have d3 : 0 < j → wr.cell? ⟨b, off + (q + 1), none⟩ = some (.int .u8 (bs.getD (q + 1) 0)) := fun h => by
        rw [show bs.getD (q + 1) 0 = bs[q + 1]'(by omega) from by simp [List.getD_eq_getElem?_getD, List.getElem?_eq_getElem (show q + 1 < bs.length by omega)]]
        exact (hbw.cell (p := ⟨b, off + (q + 1), none⟩) hob).trans (hce (q + 1) (by omega))
      have hb1 : 0 < j → 0 ≤ bs.getD (q + 1) 0 := fun h => by
        rw [show bs.getD (q + 1) 0 = bs[q + 1]'(by omega) from by simp [List.getD_eq_getElem?_getD, List.getElem?_eq_getElem (show q + 1 < bs.length by omega)]]
        exact (hB _ (List.getElem_mem _)).1
      generalize und ((bs.drop (q + 1)).take j) = m at *
      generalize bs.getD (q + 1) 0 = y at *
      have m0 : (0 : Int) ≤ (m : Int) := by omega
      have m1 : (m : Int) < 18446744073709551616 := by omega
      by_cases hj0 : j = 0
      focus
        exact absurd hj0 (by omega)
      have j1 : (0 : Int) < (j : Int) := by omega
      have d4 := d3 (by omega)
      have y0 := hb1 (by omega)
      have j2 : (q : Int) + 1 < (bs.length : Int) := by omega
      by_cases hy : y = 0
      focus
        obtain ⟨rfl, rfl, rfl⟩ : R1 = 0 ∧ R2 = 0 ∧ R3 = 3 := by have := hR2.out; rw [if_pos (.inl ⟨j1, hy⟩)] at this; simpa using this
        have hyb : (y == 0) = true := by rw [beq_iff_eq]; exact hy
        clear d3 hb1 hm1 hmz hy y0 hR2 m0 m1 hm64 hds hdl hdk
        go_wp2_with fail
        exact bodyPost_ret (v := .tuple #[.int .i64 0, .int .i64 0, .int .i64 3]) (by simp [results, Try.results24, go_sem]) rfl ⟨rfl, (by repeat (first | with_reducible exact Below.refl _ _ | with_reducible assumption | refine bgw ?_ (by first | (simp; done) | (simp; omega) | omega) _ | refine Below.setCell ?_ (by first | exact Nat.le_of_not_lt (by assumption) | (simp; done) | (simp; omega) | omega) _ | refine Below.alloc ?_ (by first | (simp; done) | (simp; omega) | omega) _ | refine Below.drew ?_))⟩
      have hyb : (y == 0) = false := by rw [beq_eq_false_iff_ne]; exact hy
      have m2 : 1 ≤ m := hm1 (by omega) (by omega)
      have m3 : (1 : Int) ≤ (m : Int) := by omega
      clear d3 hb1 hm1 hmz
      by_cases hbig : 9223372036854775808 < (m : Int)
      focus
        obtain ⟨rfl, rfl, rfl⟩ : R1 = 0 ∧ R2 = 0 ∧ R3 = 3 := by have := hR2.out; rw [if_pos (.inr (by omega))] at this; simpa using this
        clear m0 m1 m2 m3 hm64 hR2 hds hdl hdk hy y0
        go_wp2_with fail
        exact bodyPost_ret (v := .tuple #[.int .i64 0, .int .i64 0, .int .i64 3]) (by simp [results, Try.results24, go_sem]) rfl ⟨rfl, (by repeat (first | with_reducible exact Below.refl _ _ | with_reducible assumption | refine bgw ?_ (by first | (simp; done) | (simp; omega) | omega) _ | refine Below.setCell ?_ (by first | exact Nat.le_of_not_lt (by assumption) | (simp; done) | (simp; omega) | omega) _ | refine Below.alloc ?_ (by first | (simp; done) | (simp; omega) | omega) _ | refine Below.drew ?_))⟩
      obtain ⟨rfl, rfl, rfl⟩ : R1 = (-(m : Int)) ∧ R2 = q + 1 + j ∧ R3 = 0 := by have := hR2.out; rw [if_neg (by omega)] at this; simpa using this
      clear m1 m2 hm64 hR2 hds hdl hdk hy y0
      go_wp2_with fail
      exact bodyPost_ret (v := .tuple #[.int .i64 (-(m : Int)), .int .i64 ((q : Int) + 1 + j), .int .i64 0]) (by simp [results, Try.results24, go_sem]; try omega) rfl ⟨rfl, (by repeat (first | with_reducible exact Below.refl _ _ | with_reducible assumption | refine bgw ?_ (by first | (simp; done) | (simp; omega) | omega) _ | refine Below.setCell ?_ (by first | exact Nat.le_of_not_lt (by assumption) | (simp; done) | (simp; omega) | omega) _ | refine Below.alloc ?_ (by first | (simp; done) | (simp; omega) | omega) _ | refine Below.drew ?_))⟩
  rw [if_neg h16, if_neg h16] at hR
  by_cases h8 : 8 < h
  focus
    rw [hR, if_pos (.inl h8)]
    go_enter Try.func24, Try.ntmps24
    go_wp2_with fail
    exact bodyPost_ret (v := .tuple #[.int .i64 0, .int .i64 0, .int .i64 3]) (by simp [results, Try.results24, go_sem]) rfl ⟨rfl, (by repeat (first | with_reducible exact Below.refl _ _ | with_reducible assumption | refine bgw ?_ (by first | (simp; done) | (simp; omega) | omega) _ | refine Below.setCell ?_ (by first | exact Nat.le_of_not_lt (by assumption) | (simp; done) | (simp; omega) | omega) _ | refine Below.alloc ?_ (by first | (simp; done) | (simp; omega) | omega) _ | refine Below.drew ?_))⟩
  rw [if_neg (by omega)] at hR
  by_cases hsh : (bs.length : Int) - q - 1 < h
  focus
    rw [hR, if_pos hsh]
    go_enter Try.func24, Try.ntmps24
    go_wp2_with fail
    exact bodyPost_ret (v := .tuple #[.int .i64 0, .int .i64 0, .int .i64 4]) (by simp [results, Try.results24, go_sem]) rfl ⟨rfl, (by repeat (first | with_reducible exact Below.refl _ _ | with_reducible assumption | refine bgw ?_ (by first | (simp; done) | (simp; omega) | omega) _ | refine Below.setCell ?_ (by first | exact Nat.le_of_not_lt (by assumption) | (simp; done) | (simp; omega) | omega) _ | refine Below.alloc ?_ (by first | (simp; done) | (simp; omega) | omega) _ | refine Below.drew ?_))⟩
  rw [if_neg hsh] at hR
  obtain ⟨k, rfl⟩ : ∃ k : Nat, h = k := ⟨h.toNat, by omega⟩
  rw [Int.toNat_natCast] at hR
  obtain ⟨⟨R1, R2, R3⟩, hRR⟩ : ∃ R, rdInt bs q = R := ⟨_, rfl⟩
  rw [hRR]
  have hR' := hRR.symm.trans hR
  clear hR hRR
  have hR2 : Hid (_) := hR'
  clear hR'
  focus
    have hds : isB (bs.drop (q + 1)) := fun y hy => hB y (List.mem_of_mem_drop hy)
    have hdl : (bs.drop (q + 1)).length = bs.length - (q + 1) := List.length_drop
    go_enter Try.func24, Try.ntmps24
    go_wp2_with fail
    go_loopw [9, 10] (fun ms i wr => ∃ j : Nat, j ≤ k ∧ i = .int .i64 ((j : Int) + 1) ∧ ms = .int .u64 (und ((bs.drop (q + 1)).take j) : Nat) ∧ Below w.heap.size w wr)
      (fun _ i _ => (k + 1 - intOf i).toNat)
    case atStart => exact ⟨0, by omega, rfl, by simp [und], (by repeat (first | with_reducible exact Below.refl _ _ | with_reducible assumption | refine bgw ?_ (by first | (simp; done) | (simp; omega) | omega) _ | refine Below.setCell ?_ (by first | exact Nat.le_of_not_lt (by assumption) | (simp; done) | (simp; omega) | omega) _ | refine Below.alloc ?_ (by first | (simp; done) | (simp; omega) | omega) _ | refine Below.drew ?_))⟩
    case round =>
      obtain ⟨j, hj, rfl, rfl, hbw⟩ := hrel
      by_cases hjk : j < k
      focus
        have hjd : j < (bs.drop (q + 1)).length := by omega
        have i0 : (0 : Int) ≤ (q : Int) + ((j : Int) + 1) := by omega
        have i1 : (q : Int) + ((j : Int) + 1) < (bs.length : Int) := by omega
        have i2 : (j : Int) + 1 ≤ (k : Int) := by omega
        have hul : und ((bs.drop (q + 1)).take j) < 72057594037927936 := by
          have g1 := und_lt ((bs.drop (q + 1)).take j) fun y hy => hds y (List.mem_of_mem_take hy)
          have g2 : ((bs.drop (q + 1)).take j).length ≤ 7 := by rw [List.length_take]; omega
          have g3 : 256 ^ ((bs.drop (q + 1)).take j).length ≤ 256 ^ 7 := Nat.pow_le_pow_right (by omega) g2
          have g4 : (256 : Nat) ^ 7 = 72057594037927936 := by decide
          omega
        have hus := und_take_succ hjd
        have eb : (bs.drop (q + 1))[j] = bs[q + (j + 1)]'(by omega) := by rw [List.getElem_drop]; congr 1; omega
        rw [eb] at hus
        have d2 : wr.cell? ⟨b, off + (q + (j + 1)), none⟩ = some (.int .u8 (bs[q + (j + 1)]'(by omega))) := (hbw.cell (p := ⟨b, off + (q + (j + 1)), none⟩) hob).trans (hce (q + (j + 1)) (by omega))
        obtain ⟨x0, x1⟩ := hB _ (List.getElem_mem (show q + (j + 1) < bs.length by omega))
        generalize hx : bs[q + (j + 1)] = x at *
        generalize hu : und ((bs.drop (q + 1)).take j) = u at *
        have u0 : (0 : Int) ≤ (u : Int) := by omega
        have u1 : (u : Int) < 72057594037927936 := by omega
        go_wp2_with fail
        refine ⟨⟨j + 1, by omega, by go_num, ?_, (by repeat (first | with_reducible exact Below.refl _ _ | with_reducible assumption | refine bgw ?_ (by first | (simp; done) | (simp; omega) | omega) _ | refine Below.setCell ?_ (by first | exact Nat.le_of_not_lt (by assumption) | (simp; done) | (simp; omega) | omega) _ | refine Below.alloc ?_ (by first | (simp; done) | (simp; omega) | omega) _ | refine Below.drew ?_))⟩, by (try go_num); simp [intOf]; (try omega)⟩
        rw [hus]; go_num
      obtain rfl : j = k := by omega
      have i2 : ¬ (j : Int) + 1 ≤ (j : Int) := by omega
      have hdk : ((bs.drop (q + 1)).take j).length = j := by rw [List.length_take]; omega
      have hm64 : und ((bs.drop (q + 1)).take j) < 18446744073709551616 := by
        have g1 := und_lt ((bs.drop (q + 1)).take j) fun y hy => hds y (List.mem_of_mem_take hy)
        have g3 : 256 ^ ((bs.drop (q + 1)).take j).length ≤ 256 ^ 8 := Nat.pow_le_pow_right (by omega) (by omega)
        have g4 : (256 : Nat) ^ 8 = 18446744073709551616 := by decide
        omega
      have hmz : j = 0 → und ((bs.drop (q + 1)).take j) = 0 := fun h => by rw [h]; simp [und]
      have hm1 : (h1 : 0 < j) → 0 < bs.getD (q + 1) 0 → 1 ≤ und ((bs.drop (q + 1)).take j) := fun h1 h2 => und_first (by omega) (by rw [List.getElem_drop]; simpa [List.getD_eq_getElem?_getD, List.getElem?_eq_getElem (show q + 1 < bs.length by omega)] using h2) j h1 (by omega)
      have d3 : 0 < j → wr.cell? ⟨b, off + (q + 1), none⟩ = some (.int .u8 (bs.getD (q + 1) 0)) := fun h => by
        rw [show bs.getD (q + 1) 0 = bs[q + 1]'(by omega) from by simp [List.getD_eq_getElem?_getD, List.getElem?_eq_getElem (show q + 1 < bs.length by omega)]]
        exact (hbw.cell (p := ⟨b, off + (q + 1), none⟩) hob).trans (hce (q + 1) (by omega))
      have hb1 : 0 < j → 0 ≤ bs.getD (q + 1) 0 := fun h => by
        rw [show bs.getD (q + 1) 0 = bs[q + 1]'(by omega) from by simp [List.getD_eq_getElem?_getD, List.getElem?_eq_getElem (show q + 1 < bs.length by omega)]]
        exact (hB _ (List.getElem_mem _)).1
      generalize und ((bs.drop (q + 1)).take j) = m at *
      generalize bs.getD (q + 1) 0 = y at *
      have m0 : (0 : Int) ≤ (m : Int) := by omega
      have m1 : (m : Int) < 18446744073709551616 := by omega
      by_cases hj0 : j = 0
      focus
        obtain rfl := hmz hj0
        subst hj0
        obtain ⟨rfl, rfl, rfl⟩ : R1 = 0 ∧ R2 = q + 1 ∧ R3 = 0 := by have := hR2.out; simpa using this
        clear d3 hb1 hm1 hmz
        go_wp2_with fail
        exact bodyPost_ret (v := .tuple #[.int .i64 0, .int .i64 ((q : Int) + 1), .int .i64 0]) (by simp [results, Try.results24, go_sem]; try omega) rfl ⟨rfl, (by repeat (first | with_reducible exact Below.refl _ _ | with_reducible assumption | refine bgw ?_ (by first | (simp; done) | (simp; omega) | omega) _ | refine Below.setCell ?_ (by first | exact Nat.le_of_not_lt (by assumption) | (simp; done) | (simp; omega) | omega) _ | refine Below.alloc ?_ (by first | (simp; done) | (simp; omega) | omega) _ | refine Below.drew ?_))⟩
      have j1 : (0 : Int) < (j : Int) := by omega
      have d4 := d3 (by omega)
      have y0 := hb1 (by omega)
      have j2 : (q : Int) + 1 < (bs.length : Int) := by omega
      by_cases hy : y = 0
      focus
        obtain ⟨rfl, rfl, rfl⟩ : R1 = 0 ∧ R2 = 0 ∧ R3 = 3 := by have := hR2.out; rw [if_pos (.inl ⟨j1, hy⟩)] at this; simpa using this
        have hyb : (y == 0) = true := by rw [beq_iff_eq]; exact hy
        clear d3 hb1 hm1 hmz hy y0 hR2 m0 m1 hm64 hds hdl hdk
        go_wp2_with fail
        exact bodyPost_ret (v := .tuple #[.int .i64 0, .int .i64 0, .int .i64 3]) (by simp [results, Try.results24, go_sem]) rfl ⟨rfl, (by repeat (first | with_reducible exact Below.refl _ _ | with_reducible assumption | refine bgw ?_ (by first | (simp; done) | (simp; omega) | omega) _ | refine Below.setCell ?_ (by first | exact Nat.le_of_not_lt (by assumption) | (simp; done) | (simp; omega) | omega) _ | refine Below.alloc ?_ (by first | (simp; done) | (simp; omega) | omega) _ | refine Below.drew ?_))⟩
      have hyb : (y == 0) = false := by rw [beq_eq_false_iff_ne]; exact hy
      have m2 : 1 ≤ m := hm1 (by omega) (by omega)
      have m3 : (1 : Int) ≤ (m : Int) := by omega
      clear d3 hb1 hm1 hmz
      by_cases hbig : 9223372036854775807 < (m : Int)
      focus
        obtain ⟨rfl, rfl, rfl⟩ : R1 = 0 ∧ R2 = 0 ∧ R3 = 3 := by have := hR2.out; rw [if_pos (.inr (by omega))] at this; simpa using this
        clear m0 m1 m2 m3 hm64 hR2 hds hdl hdk hy y0
        go_wp2_with fail
        exact bodyPost_ret (v := .tuple #[.int .i64 0, .int .i64 0, .int .i64 3]) (by simp [results, Try.results24, go_sem]) rfl ⟨rfl, (by repeat (first | with_reducible exact Below.refl _ _ | with_reducible assumption | refine bgw ?_ (by first | (simp; done) | (simp; omega) | omega) _ | refine Below.setCell ?_ (by first | exact Nat.le_of_not_lt (by assumption) | (simp; done) | (simp; omega) | omega) _ | refine Below.alloc ?_ (by first | (simp; done) | (simp; omega) | omega) _ | refine Below.drew ?_))⟩
      obtain ⟨rfl, rfl, rfl⟩ : R1 = (m : Int) ∧ R2 = q + 1 + j ∧ R3 = 0 := by have := hR2.out; rw [if_neg (by omega)] at this; simpa using this
      clear m1 m2 hm64 hR2 hds hdl hdk hy y0
      go_wp2_with fail
      exact bodyPost_ret (v := .tuple #[.int .i64 (m : Int), .int .i64 ((q : Int) + 1 + j), .int .i64 0]) (by simp [results, Try.results24, go_sem]; try omega) rfl ⟨rfl, (by repeat (first | with_reducible exact Below.refl _ _ | with_reducible assumption | refine bgw ?_ (by first | (simp; done) | (simp; omega) | omega) _ | refine Below.setCell ?_ (by first | exact Nat.le_of_not_lt (by assumption) | (simp; done) | (simp; omega) | omega) _ | refine Below.alloc ?_ (by first | (simp; done) | (simp; omega) | omega) _ | refine Below.drew ?_))⟩

end Go.Proofs.Ytgpcldhgkaddeaa
