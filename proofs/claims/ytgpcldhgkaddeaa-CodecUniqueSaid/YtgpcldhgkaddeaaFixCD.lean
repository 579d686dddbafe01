/- Contracts of package codec that read: a byte, its digits, an integer. -/
import Derived.Test.YtgpcldhgkaddeaaFixCS
import Derived.Test.YtgpcldhgkaddeaaByP
set_option linter.unusedVariables false
namespace Go.Proofs.Ytgpcldhgkaddeaa
open Go.RowKit By

theorem xby_b (A : Option Addr) (cap : Nat) (bs : List Int) (p : Int) (hl : bs.length ≤ 1000000000) (w : World) (hp : Byts w A bs) : Calls Try.prog 31 #[.slice A bs.length cap, .int .i64 p] w fun e w' => e = .returned (.tuple #[.int .u8 (rdByte bs p).1, .int .i64 (rdByte bs p).2.1, .int .i64 (rdByte bs p).2.2]) ∧ Below w.heap.size w w' := by
  by_cases hp0 : p < 0
  focus
    rw [show rdByte bs p = (0, 0, 2) from if_pos (.inl hp0)]
    go_enter Try.func31, Try.ntmps31
    go_wp2_with fail
    exact bodyPost_ret (v := .tuple #[.int .u8 0, .int .i64 0, .int .i64 2]) (by simp [results, Try.results31, go_sem]) rfl ⟨rfl, (by repeat (first | with_reducible exact Below.refl _ _ | with_reducible assumption | refine bgw ?_ (by first | (simp; done) | (simp; omega) | omega) _ | refine Below.setCell ?_ (by first | exact Nat.le_of_not_lt (by assumption) | (simp; done) | (simp; omega) | omega) _ | refine Below.alloc ?_ (by first | (simp; done) | (simp; omega) | omega) _ | refine Below.drew ?_))⟩
  by_cases hp1 : (bs.length : Int) < p
  focus
    rw [show rdByte bs p = (0, 0, 2) from if_pos (.inr hp1)]
    go_enter Try.func31, Try.ntmps31
    go_wp2_with fail
    exact bodyPost_ret (v := .tuple #[.int .u8 0, .int .i64 0, .int .i64 2]) (by simp [results, Try.results31, go_sem]) rfl ⟨rfl, (by repeat (first | with_reducible exact Below.refl _ _ | with_reducible assumption | refine bgw ?_ (by first | (simp; done) | (simp; omega) | omega) _ | refine Below.setCell ?_ (by first | exact Nat.le_of_not_lt (by assumption) | (simp; done) | (simp; omega) | omega) _ | refine Below.alloc ?_ (by first | (simp; done) | (simp; omega) | omega) _ | refine Below.drew ?_))⟩
  by_cases hp2 : p = bs.length
  focus
    subst hp2
    rw [show rdByte bs bs.length = (0, 0, 4) from by unfold rdByte; rw [if_neg (by omega), if_pos rfl]]
    go_enter Try.func31, Try.ntmps31
    go_wp2_with fail
    exact bodyPost_ret (v := .tuple #[.int .u8 0, .int .i64 0, .int .i64 4]) (by simp [results, Try.results31, go_sem]) rfl ⟨rfl, (by repeat (first | with_reducible exact Below.refl _ _ | with_reducible assumption | refine bgw ?_ (by first | (simp; done) | (simp; omega) | omega) _ | refine Below.setCell ?_ (by first | exact Nat.le_of_not_lt (by assumption) | (simp; done) | (simp; omega) | omega) _ | refine Below.alloc ?_ (by first | (simp; done) | (simp; omega) | omega) _ | refine Below.drew ?_))⟩
  obtain ⟨q, rfl⟩ : ∃ q : Nat, p = q := ⟨p.toNat, by omega⟩
  have hq : q < bs.length := by omega
  have q0 : (0 : Int) ≤ (q : Int) := by omega
  have q1 : (q : Int) < (bs.length : Int) := by omega
  have q2 : ((q : Int) == (bs.length : Int)) = false := by rw [beq_eq_false_iff_ne]; omega
  obtain ⟨b, off, rfl, hce⟩ := Byts.open hp (by omega)
  have d1 := hce q hq
  have hob := World.block_lt_of_cell? w ⟨b, off + q, none⟩ d1
  rw [show rdByte bs q = (bs[q], (q : Int) + 1, 0) from by unfold rdByte; rw [if_neg (by omega), if_neg (by omega)]; simp [hq]]
  generalize bs[q] = h at *
  clear hce
  go_enter Try.func31, Try.ntmps31
  go_wp2_with fail
  exact bodyPost_ret (v := .tuple #[.int .u8 h, .int .i64 ((q : Int) + 1), .int .i64 0]) (by simp [results, Try.results31, go_sem]) rfl ⟨rfl, (by repeat (first | with_reducible exact Below.refl _ _ | with_reducible assumption | refine bgw ?_ (by first | (simp; done) | (simp; omega) | omega) _ | refine Below.setCell ?_ (by first | exact Nat.le_of_not_lt (by assumption) | (simp; done) | (simp; omega) | omega) _ | refine Below.alloc ?_ (by first | (simp; done) | (simp; omega) | omega) _ | refine Below.drew ?_))⟩

set_option maxRecDepth 100000 in
theorem dec_b (A : Option Addr) (cap : Nat) (ds : List Int) (neg : Bool) (hB : isB ds) (hl : ds.length ≤ 8) (w : World) (hp : Byts w A ds) : Calls Try.prog 32 #[.slice A ds.length cap, .bool neg] w fun e w' => (∃ x, e = .returned (.tuple #[.int .i64 x, .bool (dok ds neg)]) ∧ (dok ds neg = true → x = dval ds neg)) ∧ Below w.heap.size w w' := by
  by_cases hz : 0 < ds.length ∧ ds.getD 0 0 = 0
  focus
    obtain ⟨z0, z1⟩ := hz
    have d0 : ds[0] = 0 := by rw [List.getD_eq_getElem?_getD, List.getElem?_eq_getElem z0] at z1; exact z1
    rw [show dok ds neg = false from by unfold dok; simp [z0, d0]]
    obtain ⟨b, off, rfl, hce⟩ := Byts.open hp z0
    have d1 := hce 0 z0
    rw [d0, Nat.add_zero] at d1
    have z2 : (0 : Int) < (ds.length : Int) := by omega
    clear z1 d0 hce
    go_enter Try.func32, Try.ntmps32
    go_wp2_with fail
    exact bodyPost_ret (v := .tuple #[.int .i64 0, .bool false]) (by simp [results, Try.results32, go_sem]) rfl ⟨⟨_, rfl, fun h => by cases h⟩, (by repeat (first | with_reducible exact Below.refl _ _ | with_reducible assumption | refine bgw ?_ (by first | (simp; done) | (simp; omega) | omega) _ | refine Below.setCell ?_ (by first | exact Nat.le_of_not_lt (by assumption) | (simp; done) | (simp; omega) | omega) _ | refine Below.alloc ?_ (by first | (simp; done) | (simp; omega) | omega) _ | refine Below.drew ?_))⟩
  have hdk : dok ds neg = (if neg then decide ((und ds : Int) ≤ 9223372036854775808) else decide ((und ds : Int) ≤ 9223372036854775807)) := by
    unfold dok
    have : (decide (0 < ds.length) && ds.getD 0 0 == 0) = false := by
      rw [Bool.and_eq_false_iff]
      by_cases g : 0 < ds.length
      · right; rw [beq_eq_false_iff_ne]; exact fun k => hz ⟨g, k⟩
      · left; simpa using g
    rw [this]; simp
  have hum : und ds < 18446744073709551616 := by
    have g1 := und_lt ds hB
    have g3 : 256 ^ ds.length ≤ 256 ^ 8 := Nat.pow_le_pow_right (by omega) hl
    have g4 : (256 : Nat) ^ 8 = 18446744073709551616 := by decide
    omega
  obtain ⟨m, hm⟩ : ∃ m, und ds = m := ⟨_, rfl⟩
  obtain ⟨K, hK⟩ : ∃ K, dok ds neg = K := ⟨_, rfl⟩
  obtain ⟨V, hV⟩ : ∃ V, dval ds neg = V := ⟨_, rfl⟩
  have hV1 : Hid (V = if neg then -(m : Int) else m) := by show _ = _; rw [← hV, ← hm]; rfl
  have hK1 : Hid (K = (if neg then decide ((m : Int) ≤ 9223372036854775808) else decide ((m : Int) ≤ 9223372036854775807))) := by show _ = _; rw [← hK, hdk, hm]
  have hM : Hid (und ds = m) := hm
  rw [hK, hV]
  rw [hm] at hum
  clear hm hK hV hdk
  have m1 : Hid (m < 18446744073709551616) := hum
  clear hum
  by_cases h0 : ds.length = 0
  focus
    have z2 : ¬ (0 : Int) < (ds.length : Int) := by omega
    have h0h : Hid (ds.length = 0) := h0
    clear h0
    go_enter Try.func32, Try.ntmps32
    go_wp2_with fail
    go_loopw [6, 20] (fun ms i wr => ∃ j : Nat, j ≤ ds.length ∧ i = .int .i64 (j : Int) ∧ ms = .int .u64 (und (ds.take j) : Nat) ∧ Below w.heap.size w wr)
      (fun _ i _ => (ds.length - intOf i).toNat)
    case atStart => exact ⟨0, by omega, rfl, by simp [und], (by repeat (first | with_reducible exact Below.refl _ _ | with_reducible assumption | refine bgw ?_ (by first | (simp; done) | (simp; omega) | omega) _ | refine Below.setCell ?_ (by first | exact Nat.le_of_not_lt (by assumption) | (simp; done) | (simp; omega) | omega) _ | refine Below.alloc ?_ (by first | (simp; done) | (simp; omega) | omega) _ | refine Below.drew ?_))⟩
    case round =>
      obtain ⟨j, hj, rfl, rfl, hbw⟩ := hrel
      by_cases hjk : j < ds.length
      · exact absurd hjk (by have := h0h.out; omega)
      obtain rfl : j = ds.length := by omega
      rw [show und (ds.take ds.length) = m from by rw [List.take_length]; exact hM.out]
      cases neg
      focus
        go_wp2_with fail
        obtain rfl : K = decide ((m : Int) ≤ 9223372036854775807) := hK1.out
        obtain rfl : V = (m : Int) := hV1.out
        exact bodyPost_ret (v := .tuple #[.int .i64 (wrap64 (m : Int)), .bool (decide ((m : Int) ≤ 9223372036854775807))]) (by simp [results, Try.results32, go_sem]) rfl ⟨⟨_, rfl, fun h => by have := of_decide_eq_true h; unfold wrap64; omega⟩, hbw⟩
      go_wp2_with fail
      obtain rfl : K = decide ((m : Int) ≤ 9223372036854775808) := hK1.out
      obtain rfl : V = -(m : Int) := hV1.out
      exact bodyPost_ret (v := .tuple #[.int .i64 (wrap64 (IntKind.u64.wrap (-(m : Int)))), .bool (decide ((m : Int) ≤ 9223372036854775808))]) (by simp [results, Try.results32, go_sem]) rfl ⟨⟨_, rfl, fun h => by have := of_decide_eq_true h; simp only [IntKind.wrap_u64]; unfold wrap64; omega⟩, hbw⟩
  have z2 : (0 : Int) < (ds.length : Int) := by omega
  obtain ⟨b, off, rfl, hce0⟩ := Byts.open hp (by omega)
  have d1 := hce0 0 (by omega)
  have d4 : (ds[0]'(by omega) == 0) = false := by
    rw [beq_eq_false_iff_ne]; intro k; exact hz ⟨by omega, by rw [List.getD_eq_getElem?_getD, List.getElem?_eq_getElem (by omega)]; exact k⟩
  rw [Nat.add_zero] at d1
  have ob := older_of_cell d1
  clear hz h0
  generalize hx0 : ds[0]'(by omega) = x0 at d1 d4
  go_enter Try.func32, Try.ntmps32
  go_wp2_with fail
  go_loopw [6, 20] (fun ms i wr => ∃ j : Nat, j ≤ ds.length ∧ i = .int .i64 (j : Int) ∧ ms = .int .u64 (und (ds.take j) : Nat) ∧ Below w.heap.size w wr)
    (fun _ i _ => (ds.length - intOf i).toNat)
  case atStart => exact ⟨0, by omega, rfl, by simp [und], (by repeat (first | with_reducible exact Below.refl _ _ | with_reducible assumption | refine bgw ?_ (by first | (simp; done) | (simp; omega) | omega) _ | refine Below.setCell ?_ (by first | exact Nat.le_of_not_lt (by assumption) | (simp; done) | (simp; omega) | omega) _ | refine Below.alloc ?_ (by first | (simp; done) | (simp; omega) | omega) _ | refine Below.drew ?_))⟩
  case round =>
    obtain ⟨j, hj, rfl, rfl, hbw⟩ := hrel
    by_cases hjk : j < ds.length
    focus
      have i0 : (0 : Int) ≤ (j : Int) := by omega
      have i1 : (j : Int) < (ds.length : Int) := by omega
      have hul : und (ds.take j) < 72057594037927936 := by
        have g1 := und_lt (ds.take j) fun y hy => hB y (List.mem_of_mem_take hy)
        have g2 : (ds.take j).length ≤ 7 := by rw [List.length_take]; omega
        have g3 : 256 ^ (ds.take j).length ≤ 256 ^ 7 := Nat.pow_le_pow_right (by omega) g2
        have g4 : (256 : Nat) ^ 7 = 72057594037927936 := by decide
        omega
      have hus := und_take_succ hjk
      have hce := fun i (h : i < ds.length) => (hbw.cell (p := ⟨b, off + i, none⟩) (World.block_lt_of_cell? w ⟨b, off + i, none⟩ (hce0 i h))).trans (hce0 i h)
      have d3 : wr.cell? ⟨b, off + j, none⟩ = some (.int .u8 ds[j]) := hce j hjk
      have hob := older_of_cell d3
      obtain ⟨x0, x1⟩ := hB _ (List.getElem_mem hjk)
      clear hce
      generalize ds[j] = x at *
      generalize und (ds.take j) = u at *
      obtain ⟨y, rfl⟩ : ∃ y : Nat, x = y := ⟨x.toNat, by omega⟩
      have u0 : (0 : Int) ≤ (u : Int) := by omega
      have u1 : (u : Int) < 72057594037927936 := by omega
      go_wp2_with fail
      refine ⟨⟨j + 1, by omega, by go_num, ?_, hbw⟩, by simp [intOf] <;> omega⟩
    rw [hus, u64_or _ _ (by omega) (by omega) (by omega) (by omega), show ((u : Int) * 256).toNat = u * 256 by omega, Int.toNat_natCast, or_digit u y (by omega)]
    obtain rfl : j = ds.length := by omega
    rw [show und (ds.take ds.length) = m from by rw [List.take_length]; exact hM.out]
    cases neg
    focus
      go_wp2_with fail
      obtain rfl : K = decide ((m : Int) ≤ 9223372036854775807) := hK1.out
      obtain rfl : V = (m : Int) := hV1.out
      exact bodyPost_ret (v := .tuple #[.int .i64 (wrap64 (m : Int)), .bool (decide ((m : Int) ≤ 9223372036854775807))]) (by simp [results, Try.results32, go_sem]) rfl ⟨⟨_, rfl, fun h => by have := of_decide_eq_true h; unfold wrap64; omega⟩, hbw⟩
    go_wp2_with fail
    obtain rfl : K = decide ((m : Int) ≤ 9223372036854775808) := hK1.out
    obtain rfl : V = -(m : Int) := hV1.out
    exact bodyPost_ret (v := .tuple #[.int .i64 (wrap64 (IntKind.u64.wrap (-(m : Int)))), .bool (decide ((m : Int) ≤ 9223372036854775808))]) (by simp [results, Try.results32, go_sem]) rfl ⟨⟨_, rfl, fun h => by have := of_decide_eq_true h; simp only [IntKind.wrap_u64]; unfold wrap64; omega⟩, hbw⟩

set_option maxRecDepth 100000 in
set_option maxHeartbeats 1000000 in
theorem xri_b (A : Option Addr) (cap : Nat) (bs : List Int) (p : Int) (hB : isB bs) (hl : bs.length ≤ 1000000000) (hk : bs.length ≤ cap) (w : World) (hp : Byts w A bs) : Calls Try.prog 15 #[.slice A bs.length cap, .int .i64 p] w fun e w' => e = .returned (.tuple #[.int .i64 (rdInt bs p).1, .int .i64 (rdInt bs p).2.1, .int .i64 (rdInt bs p).2.2]) ∧ Below w.heap.size w w' := by
  have cR : ∀ w', Below w.heap.size w w' → Calls Try.prog 31 #[.slice A bs.length cap, .int .i64 p] w' fun e w'' => e = .returned (.tuple #[.int .u8 (rdByte bs p).1, .int .i64 (rdByte bs p).2.1, .int .i64 (rdByte bs p).2.2]) ∧ Below w'.heap.size w' w'' := fun w' hb => xby_b A cap bs p hl w' (Cs.to hp hb)
  by_cases hin : ¬ (0 ≤ p ∧ p < bs.length)
  focus
    obtain ⟨E, hE, e0, e1⟩ : ∃ E, E ≠ 0 ∧ rdByte bs p = (0, 0, E) ∧ rdInt bs p = (0, 0, E) := by
      unfold rdByte rdInt
      by_cases c1 : p < 0 ∨ (bs.length : Int) < p
      · exact ⟨2, by decide, if_pos c1, if_pos c1⟩
      · exact ⟨4, by decide, by rw [if_neg c1, if_pos (by omega)], by rw [if_neg c1, if_pos (by omega)]⟩
    rw [e1]
    rw [e0] at cR
    have hEb : (E != 0) = true := by rw [bne_iff_ne]; exact hE
    clear e0 e1 hE hin
    go_enter Try.func15, Try.ntmps15
    go_wp2_with (go_at_call 31; refine Calls.mono (gw_at (cR _ (by repeat (first | with_reducible exact Below.refl _ _ | with_reducible assumption | refine bgw ?_ (by first | (simp; done) | (simp; omega) | omega) _ | refine Below.setCell ?_ (by first | exact Nat.le_of_not_lt (by assumption) | (simp; done) | (simp; omega) | omega) _ | refine Below.alloc ?_ (by first | (simp; done) | (simp; omega) | omega) _ | refine Below.drew ?_)))) ?_; rintro e w1 ⟨rfl, q, rfl⟩)
    exact bodyPost_ret (v := .tuple #[.int .i64 0, .int .i64 0, .int .i64 E]) (by simp [results, Try.results15, go_sem]) rfl ⟨rfl, (by repeat (first | with_reducible exact Below.refl _ _ | with_reducible assumption | refine bgw ?_ (by first | (simp; done) | (simp; omega) | omega) _ | refine Below.setCell ?_ (by first | exact Nat.le_of_not_lt (by assumption) | (simp; done) | (simp; omega) | omega) _ | refine Below.alloc ?_ (by first | (simp; done) | (simp; omega) | omega) _ | refine Below.drew ?_))⟩
  obtain ⟨hi0, hi1⟩ : 0 ≤ p ∧ p < bs.length := Classical.not_not.1 hin
  clear hin
  obtain ⟨q, rfl⟩ : ∃ q : Nat, p = q := ⟨p.toNat, by omega⟩
  have hq : q < bs.length := by omega
  obtain ⟨h0, h1⟩ := hB _ (List.getElem_mem hq)
  have hst := rd_step hq rfl
  rw [show rdByte bs q = (bs[q], (q : Int) + 1, 0) from by unfold rdByte; rw [if_neg (by omega), if_neg (by omega)]; simp [hq]] at cR
  dsimp only at cR
  generalize bs[q] = h at *
  have hka := hk_at h0 h1
  have hbn := u8_andNot h 16 h0 h1 (by omega) (by omega)
  rw [show 255 - (16 : Int).toNat = 239 from rfl] at hbn
  obtain ⟨s, hs⟩ : ∃ s, h.toNat &&& 239 = s := ⟨_, rfl⟩
  have s1 : s ≤ 239 := by rw [← hs]; exact Nat.and_le_right
  rw [hs] at hka hbn
  clear hs
  rw [hst]
  by_cases c1 : 8 < By.hk h ∨ (16 ≤ h ∧ By.hk h = 0)
  focus
    rw [if_pos c1]
    have c2 := hka.1.2 c1
    by_cases s8 : 8 < s
    focus
      have s9 : (8 : Int) < (s : Int) := by omega
      clear c2 c1 hka hst
      go_enter Try.func15, Try.ntmps15
      go_wp2_with (go_at_call 31; refine Calls.mono (gw_at (cR _ (by repeat (first | with_reducible exact Below.refl _ _ | with_reducible assumption | refine bgw ?_ (by first | (simp; done) | (simp; omega) | omega) _ | refine Below.setCell ?_ (by first | exact Nat.le_of_not_lt (by assumption) | (simp; done) | (simp; omega) | omega) _ | refine Below.alloc ?_ (by first | (simp; done) | (simp; omega) | omega) _ | refine Below.drew ?_)))) ?_; rintro e w1 ⟨rfl, q, rfl⟩)
      exact bodyPost_ret (v := .tuple #[.int .i64 0, .int .i64 0, .int .i64 3]) (by simp [results, Try.results15, go_sem]) rfl ⟨rfl, (by repeat (first | with_reducible exact Below.refl _ _ | with_reducible assumption | refine bgw ?_ (by first | (simp; done) | (simp; omega) | omega) _ | refine Below.setCell ?_ (by first | exact Nat.le_of_not_lt (by assumption) | (simp; done) | (simp; omega) | omega) _ | refine Below.alloc ?_ (by first | (simp; done) | (simp; omega) | omega) _ | refine Below.drew ?_))⟩
    have hb : (h == 16) = true := by rw [beq_iff_eq]; omega
    have s9 : ¬ (8 : Int) < (s : Int) := by omega
    clear c2 c1 hka hst
    go_enter Try.func15, Try.ntmps15
    go_wp2_with (go_at_call 31; refine Calls.mono (gw_at (cR _ (by repeat (first | with_reducible exact Below.refl _ _ | with_reducible assumption | refine bgw ?_ (by first | (simp; done) | (simp; omega) | omega) _ | refine Below.setCell ?_ (by first | exact Nat.le_of_not_lt (by assumption) | (simp; done) | (simp; omega) | omega) _ | refine Below.alloc ?_ (by first | (simp; done) | (simp; omega) | omega) _ | refine Below.drew ?_)))) ?_; rintro e w1 ⟨rfl, q, rfl⟩)
    exact bodyPost_ret (v := .tuple #[.int .i64 0, .int .i64 0, .int .i64 3]) (by simp [results, Try.results15, go_sem]) rfl ⟨rfl, (by repeat (first | with_reducible exact Below.refl _ _ | with_reducible assumption | refine bgw ?_ (by first | (simp; done) | (simp; omega) | omega) _ | refine Below.setCell ?_ (by first | exact Nat.le_of_not_lt (by assumption) | (simp; done) | (simp; omega) | omega) _ | refine Below.alloc ?_ (by first | (simp; done) | (simp; omega) | omega) _ | refine Below.drew ?_))⟩
  rw [if_neg c1]
  have hsk := hka.2 c1
  have c2 : ¬ (8 < s ∨ h = 16) := fun g => c1 (hka.1.1 g)
  have s9 : ¬ (8 : Int) < (s : Int) := by omega
  have hb : (h == 16) = false := by rw [beq_eq_false_iff_ne]; omega
  rw [← hsk]
  rw [← hsk] at hst
  by_cases c3 : (bs.length : Int) - ((q : Int) + 1) < (s : Int)
  focus
    rw [if_pos c3]
    clear c2 c1 hka hst hsk
    go_enter Try.func15, Try.ntmps15
    go_wp2_with (go_at_call 31; refine Calls.mono (gw_at (cR _ (by repeat (first | with_reducible exact Below.refl _ _ | with_reducible assumption | refine bgw ?_ (by first | (simp; done) | (simp; omega) | omega) _ | refine Below.setCell ?_ (by first | exact Nat.le_of_not_lt (by assumption) | (simp; done) | (simp; omega) | omega) _ | refine Below.alloc ?_ (by first | (simp; done) | (simp; omega) | omega) _ | refine Below.drew ?_)))) ?_; rintro e w1 ⟨rfl, q, rfl⟩)
    exact bodyPost_ret (v := .tuple #[.int .i64 0, .int .i64 0, .int .i64 4]) (by simp [results, Try.results15, go_sem]) rfl ⟨rfl, (by repeat (first | with_reducible exact Below.refl _ _ | with_reducible assumption | refine bgw ?_ (by first | (simp; done) | (simp; omega) | omega) _ | refine Below.setCell ?_ (by first | exact Nat.le_of_not_lt (by assumption) | (simp; done) | (simp; omega) | omega) _ | refine Below.alloc ?_ (by first | (simp; done) | (simp; omega) | omega) _ | refine Below.drew ?_))⟩
  rw [if_neg c3]
  clear c2 c1 hka hst hsk
  rw [Int.toNat_natCast]
  have hds : ((bs.drop (q + 1)).take s).length = s := by rw [List.length_take, List.length_drop]; omega
  have hdB : isB ((bs.drop (q + 1)).take s) := isB_take (isB_drop hB _) _
  have hpd : Byts w (A.map (fun x => x.add (q + 1))) ((bs.drop (q + 1)).take s) := Byts.take s (Byts.drop (q + 1) hp)
  generalize (bs.drop (q + 1)).take s = ds at *
  have cD : ∀ X c' w', Byts w' X ds → Calls Try.prog 32 #[.slice X s c', .bool (decide (16 ≤ h))] w' fun e w'' => (∃ x, e = .returned (.tuple #[.int .i64 x, .bool (dok ds (decide (16 ≤ h)))]) ∧ (dok ds (decide (16 ≤ h)) = true → x = dval ds (decide (16 ≤ h)))) ∧ Below w'.heap.size w' w'' := fun X c' w' hx => by
    have := dec_b X c' ds (decide (16 ≤ h)) hdB (by omega) w' hx
    rw [hds] at this; exact this
  generalize dok ds (decide (16 ≤ h)) = K at *
  generalize dval ds (decide (16 ≤ h)) = V at *
  by_cases hc : cap = q + 1
  focus
    obtain rfl : s = 0 := by omega
    have hd0 : ds = [] := List.eq_nil_of_length_eq_zero hds
    have hpd : Byts w A ds := by rw [hd0]; exact .inl rfl
    subst hc
    clear hds hdB hd0
    cases K
    focus
      rw [if_neg (by simp)]
      go_enter Try.func15, Try.ntmps15
      go_wp2_with (first
        | (go_at_call 31; refine Calls.mono (gw_at (cR _ (by repeat (first | with_reducible exact Below.refl _ _ | with_reducible assumption | refine bgw ?_ (by first | (simp; done) | (simp; omega) | omega) _ | refine Below.setCell ?_ (by first | exact Nat.le_of_not_lt (by assumption) | (simp; done) | (simp; omega) | omega) _ | refine Below.alloc ?_ (by first | (simp; done) | (simp; omega) | omega) _ | refine Below.drew ?_)))) ?_; rintro e w1 ⟨rfl, g1, rfl⟩)
        | (go_at_call 32; refine Calls.mono (gw_ex (cD _ _ _ (Cs.to hpd (by repeat (first | with_reducible exact Below.refl _ _ | with_reducible assumption | refine bgw ?_ (by first | (simp; done) | (simp; omega) | omega) _ | refine Below.setCell ?_ (by first | exact Nat.le_of_not_lt (by assumption) | (simp; done) | (simp; omega) | omega) _ | refine Below.alloc ?_ (by first | (simp; done) | (simp; omega) | omega) _ | refine Below.drew ?_))))) ?_; rintro e w1 ⟨⟨x, rfl, hx⟩, g2, rfl⟩))
      exact bodyPost_ret (v := .tuple #[.int .i64 0, .int .i64 0, .int .i64 3]) (by simp [results, Try.results15, go_sem]) rfl ⟨rfl, (by repeat (first | with_reducible exact Below.refl _ _ | with_reducible assumption | refine bgw ?_ (by first | (simp; done) | (simp; omega) | omega) _ | refine Below.setCell ?_ (by first | exact Nat.le_of_not_lt (by assumption) | (simp; done) | (simp; omega) | omega) _ | refine Below.alloc ?_ (by first | (simp; done) | (simp; omega) | omega) _ | refine Below.drew ?_))⟩
    rw [if_pos rfl]
    go_enter Try.func15, Try.ntmps15
    go_wp2_with (first
      | (go_at_call 31; refine Calls.mono (gw_at (cR _ (by repeat (first | with_reducible exact Below.refl _ _ | with_reducible assumption | refine bgw ?_ (by first | (simp; done) | (simp; omega) | omega) _ | refine Below.setCell ?_ (by first | exact Nat.le_of_not_lt (by assumption) | (simp; done) | (simp; omega) | omega) _ | refine Below.alloc ?_ (by first | (simp; done) | (simp; omega) | omega) _ | refine Below.drew ?_)))) ?_; rintro e w1 ⟨rfl, g1, rfl⟩)
      | (go_at_call 32; refine Calls.mono (gw_ex (cD _ _ _ (Cs.to hpd (by repeat (first | with_reducible exact Below.refl _ _ | with_reducible assumption | refine bgw ?_ (by first | (simp; done) | (simp; omega) | omega) _ | refine Below.setCell ?_ (by first | exact Nat.le_of_not_lt (by assumption) | (simp; done) | (simp; omega) | omega) _ | refine Below.alloc ?_ (by first | (simp; done) | (simp; omega) | omega) _ | refine Below.drew ?_))))) ?_; rintro e w1 ⟨⟨x, rfl, hx⟩, g2, rfl⟩; obtain rfl := hx (by trivial)))
    exact bodyPost_ret (v := .tuple #[.int .i64 x, .int .i64 ((q : Int) + 1 + ((0 : Nat) : Int)), .int .i64 0]) (by simp [results, Try.results15, go_sem]) rfl ⟨rfl, (by repeat (first | with_reducible exact Below.refl _ _ | with_reducible assumption | refine bgw ?_ (by first | (simp; done) | (simp; omega) | omega) _ | refine Below.setCell ?_ (by first | exact Nat.le_of_not_lt (by assumption) | (simp; done) | (simp; omega) | omega) _ | refine Below.alloc ?_ (by first | (simp; done) | (simp; omega) | omega) _ | refine Below.drew ?_))⟩
  clear hds hdB
  cases K
  focus
    rw [if_neg (by simp)]
    go_enter Try.func15, Try.ntmps15
    go_wp2_with (first
      | (go_at_call 31; refine Calls.mono (gw_at (cR _ (by repeat (first | with_reducible exact Below.refl _ _ | with_reducible assumption | refine bgw ?_ (by first | (simp; done) | (simp; omega) | omega) _ | refine Below.setCell ?_ (by first | exact Nat.le_of_not_lt (by assumption) | (simp; done) | (simp; omega) | omega) _ | refine Below.alloc ?_ (by first | (simp; done) | (simp; omega) | omega) _ | refine Below.drew ?_)))) ?_; rintro e w1 ⟨rfl, g1, rfl⟩)
      | (go_at_call 32; refine Calls.mono (gw_ex (cD _ _ _ (Cs.to hpd (by repeat (first | with_reducible exact Below.refl _ _ | with_reducible assumption | refine bgw ?_ (by first | (simp; done) | (simp; omega) | omega) _ | refine Below.setCell ?_ (by first | exact Nat.le_of_not_lt (by assumption) | (simp; done) | (simp; omega) | omega) _ | refine Below.alloc ?_ (by first | (simp; done) | (simp; omega) | omega) _ | refine Below.drew ?_))))) ?_; rintro e w1 ⟨⟨x, rfl, hx⟩, g2, rfl⟩))
    exact bodyPost_ret (v := .tuple #[.int .i64 0, .int .i64 0, .int .i64 3]) (by simp [results, Try.results15, go_sem]) rfl ⟨rfl, (by repeat (first | with_reducible exact Below.refl _ _ | with_reducible assumption | refine bgw ?_ (by first | (simp; done) | (simp; omega) | omega) _ | refine Below.setCell ?_ (by first | exact Nat.le_of_not_lt (by assumption) | (simp; done) | (simp; omega) | omega) _ | refine Below.alloc ?_ (by first | (simp; done) | (simp; omega) | omega) _ | refine Below.drew ?_))⟩
  rw [if_pos rfl]
  go_enter Try.func15, Try.ntmps15
  go_wp2_with (first
    | (go_at_call 31; refine Calls.mono (gw_at (cR _ (by repeat (first | with_reducible exact Below.refl _ _ | with_reducible assumption | refine bgw ?_ (by first | (simp; done) | (simp; omega) | omega) _ | refine Below.setCell ?_ (by first | exact Nat.le_of_not_lt (by assumption) | (simp; done) | (simp; omega) | omega) _ | refine Below.alloc ?_ (by first | (simp; done) | (simp; omega) | omega) _ | refine Below.drew ?_)))) ?_; rintro e w1 ⟨rfl, g1, rfl⟩)
    | (go_at_call 32; refine Calls.mono (gw_ex (cD _ _ _ (Cs.to hpd (by repeat (first | with_reducible exact Below.refl _ _ | with_reducible assumption | refine bgw ?_ (by first | (simp; done) | (simp; omega) | omega) _ | refine Below.setCell ?_ (by first | exact Nat.le_of_not_lt (by assumption) | (simp; done) | (simp; omega) | omega) _ | refine Below.alloc ?_ (by first | (simp; done) | (simp; omega) | omega) _ | refine Below.drew ?_))))) ?_; rintro e w1 ⟨⟨x, rfl, hx⟩, g2, rfl⟩; obtain rfl := hx (by trivial)))
  exact bodyPost_ret (v := .tuple #[.int .i64 x, .int .i64 ((q : Int) + 1 + (s : Int)), .int .i64 0]) (by simp [results, Try.results15, go_sem]) rfl ⟨rfl, (by repeat (first | with_reducible exact Below.refl _ _ | with_reducible assumption | refine bgw ?_ (by first | (simp; done) | (simp; omega) | omega) _ | refine Below.setCell ?_ (by first | exact Nat.le_of_not_lt (by assumption) | (simp; done) | (simp; omega) | omega) _ | refine Below.alloc ?_ (by first | (simp; done) | (simp; omega) | omega) _ | refine Below.drew ?_))⟩

end Go.Proofs.Ytgpcldhgkaddeaa
