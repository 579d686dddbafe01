/- Contracts of the reference of chapter 6: each returns what the Lean functions of the same meaning give, and nothing that existed has changed. Conditions: lists of at most 65536 numbers. -/
import Derived.Test.YtdpkhjnjjegobaaChecked
import Derived.Test.YtdpkhjnjjegobaaFld
import Derived.Test.YtdpkhjnjjegobaaMix
import Derived.Test.YtdpkhjnjjegobaaRow
import Derived.Test.YtdpkhjnjjegobaaPm
import Derived.Laws.Bits64
set_option linter.unusedVariables false
namespace Go.Proofs.Ytdpkhjnjjegobaa
open Go.RowKit Pm

theorem info_bool : (Try.prog.info? 4).map (fun i => (i.zero, i.size, i.bytes)) = some (some (.bool false), 1, 1) := by kernel_rfl

theorem info_int : (Try.prog.info? 3).map (fun i => (i.zero, i.size, i.bytes)) = some (some (.int .i64 0), 1, 8) := by kernel_rfl

theorem rnext_b (s : Int) (w : World) : Calls Try.prog 14 #[.int .u64 s] w fun e w' => e = .returned (.tuple #[.int .u64 (nv s), .int .u64 (nt s)]) ∧ Below w.heap.size w w' := by
  go_enter Try.func14, Try.ntmps14
  go_wp2_with fail
  have e1 := nt_div s
  have e2 := nu_div (nt s)
  exact bodyPost_ret (v := .tuple #[.int .u64 (nv s), .int .u64 (nt s)]) (by
    simp only [nu, nt, xr, U] at e1 e2
    simp [results, Try.results14, go_sem, nv, nu, nt, xr, e1, e2]) rfl ⟨rfl, (by repeat (first | with_reducible exact Below.refl _ _ | with_reducible assumption | refine bgw ?_ (by first | (simp; done) | (simp; omega) | omega) _ | refine Below.setCell ?_ (by first | exact Nat.le_of_not_lt (by assumption) | (simp; done) | (simp; omega) | omega) _ | refine Below.alloc ?_ (by first | (simp; done) | (simp; omega) | omega) _ | refine Below.drew ?_))⟩

theorem rintn_b (n s : Int) (hn : n ≤ 9223372036854775807) (w : World) : Calls Try.prog 16 #[.int .i64 n, .int .u64 s] w fun e w' => e = .returned (.tuple #[.int .i64 (ik n s), .int .u64 (is' n s)]) ∧ Below w.heap.size w w' := by
  by_cases h : n < 1
  focus
    rw [show ik n s = 0 from if_pos h, show is' n s = s from if_pos h]
    go_enter Try.func16, Try.ntmps16
    go_wp2_with (first | (go_at_call 14; refine Calls.mono (gw_at (rnext_b _ _)) ?_; rintro e w1 ⟨rfl, q, rfl⟩))
    exact bodyPost_ret (v := .tuple #[.int .i64 0, .int .u64 s]) (by simp [results, Try.results16, go_sem]) rfl ⟨rfl, (by repeat (first | with_reducible exact Below.refl _ _ | with_reducible assumption | refine bgw ?_ (by first | (simp; done) | (simp; omega) | omega) _ | refine Below.setCell ?_ (by first | exact Nat.le_of_not_lt (by assumption) | (simp; done) | (simp; omega) | omega) _ | refine Below.alloc ?_ (by first | (simp; done) | (simp; omega) | omega) _ | refine Below.drew ?_))⟩
  rw [show ik n s = nv s % n from if_neg h, show is' n s = nt s from if_neg h]
  have h1 : ¬ n = 0 := by omega
  obtain ⟨g1, g2⟩ := nv_in s
  have e : wrap64 (nv s % n) = nv s % n := by
    have k1 := Int.emod_nonneg (nv s) (b := n) (by omega)
    have k2 := Int.emod_lt_of_pos (nv s) (b := n) (by omega)
    unfold wrap64; omega
  go_enter Try.func16, Try.ntmps16
  go_wp2_with (first | (go_at_call 14; refine Calls.mono (gw_at (rnext_b _ _)) ?_; rintro e w1 ⟨rfl, q, rfl⟩))
  exact bodyPost_ret (v := .tuple #[.int .i64 (nv s % n), .int .u64 (nt s)]) (by simp [results, Try.results16, go_sem, e]) rfl ⟨rfl, (by repeat (first | with_reducible exact Below.refl _ _ | with_reducible assumption | refine bgw ?_ (by first | (simp; done) | (simp; omega) | omega) _ | refine Below.setCell ?_ (by first | exact Nat.le_of_not_lt (by assumption) | (simp; done) | (simp; omega) | omega) _ | refine Below.alloc ?_ (by first | (simp; done) | (simp; omega) | omega) _ | refine Below.drew ?_))⟩

theorem ridx_b (A : Option Addr) (cap : Nat) (ns : List Int) (v : Int) (hl : ns.length ≤ 65536) (w : World) (hp : Ints w A ns) : Calls Try.prog 25 #[.slice A ns.length cap, .int .i64 v] w fun e w' => e = .returned (.int .i64 (ix ns v)) ∧ Below w.heap.size w w' := by
  obtain ⟨X, hX⟩ : ∃ X, ix ns v = X := ⟨_, rfl⟩
  rw [hX]
  go_enter Try.func25, Try.ntmps25
  go_wp2_with fail
  go_loopw [5] (fun i wr => ∃ k : Nat, k ≤ ns.length ∧ i = .int .i64 k ∧ v ∉ ns.take k ∧ Below w.heap.size w wr)
    (fun i _ => (ns.length - intOf i).toNat)
  case atStart => exact ⟨0, by omega, rfl, by simp, (by repeat (first | with_reducible exact Below.refl _ _ | with_reducible assumption | refine bgw ?_ (by first | (simp; done) | (simp; omega) | omega) _ | refine Below.setCell ?_ (by first | exact Nat.le_of_not_lt (by assumption) | (simp; done) | (simp; omega) | omega) _ | refine Below.alloc ?_ (by first | (simp; done) | (simp; omega) | omega) _ | refine Below.drew ?_))⟩
  case round =>
    obtain ⟨k, hk, rfl, hno, hbw⟩ := hrel
    by_cases hlt : k < ns.length
    · have i0 : (0 : Int) ≤ (k : Int) := by omega
      have i1 : (k : Int) < (ns.length : Int) := by omega
      obtain ⟨b, off, rfl, hce⟩ := Ints.open hp (by omega)
      have d0 := hce k hlt
      have d1 : wr.cell? ⟨b, off + k, none⟩ = some (.int .i64 ns[k]) := (hbw.cell (p := ⟨b, off + k, none⟩) (World.block_lt_of_cell? w ⟨b, off + k, none⟩ d0)).trans d0
      clear d0
      by_cases hx : ns[k] = v
      · have e : X = k := hX.symm.trans (ix_at hlt hx hno)
        subst e
        rw [hx] at d1
        go_wp2_with fail
        go_ret
        exact ⟨rfl, (by repeat (first | with_reducible exact Below.refl _ _ | with_reducible assumption | refine bgw ?_ (by first | (simp; done) | (simp; omega) | omega) _ | refine Below.setCell ?_ (by first | exact Nat.le_of_not_lt (by assumption) | (simp; done) | (simp; omega) | omega) _ | refine Below.alloc ?_ (by first | (simp; done) | (simp; omega) | omega) _ | refine Below.drew ?_))⟩
      · generalize hy : ns[k] = y at *
        go_wp2_with fail
        refine ⟨⟨k + 1, by omega, by go_num, fun h => ?_, (by repeat (first | with_reducible exact Below.refl _ _ | with_reducible assumption | refine bgw ?_ (by first | (simp; done) | (simp; omega) | omega) _ | refine Below.setCell ?_ (by first | exact Nat.le_of_not_lt (by assumption) | (simp; done) | (simp; omega) | omega) _ | refine Below.alloc ?_ (by first | (simp; done) | (simp; omega) | omega) _ | refine Below.drew ?_))⟩, by (try go_num); simp [intOf]; (try omega)⟩
        rcases (mem_take_succ hlt).1 h with h | h
        · exact hno h
        · exact hx (by rw [h, hy])
    · obtain rfl : k = ns.length := by omega
      have i1 : ¬ (ns.length : Int) < (ns.length : Int) := by omega
      rw [List.take_length] at hno
      have e : X = -1 := hX.symm.trans (ix_none hno)
      subst e
      go_wp2_with fail
      go_ret
      exact ⟨rfl, (by repeat (first | with_reducible exact Below.refl _ _ | with_reducible assumption | refine bgw ?_ (by first | (simp; done) | (simp; omega) | omega) _ | refine Below.setCell ?_ (by first | exact Nat.le_of_not_lt (by assumption) | (simp; done) | (simp; omega) | omega) _ | refine Below.alloc ?_ (by first | (simp; done) | (simp; omega) | omega) _ | refine Below.drew ?_))⟩

theorem risp_b (A : Option Addr) (cap : Nat) (ns : List Int) (hl : ns.length ≤ 65536) (w : World) (hp : Ints w A ns) : Calls Try.prog 17 #[.slice A ns.length cap] w fun e w' => e = .returned (.bool (isPerm ns)) ∧ Below w.heap.size w w' := by
  obtain ⟨P, hP⟩ : ∃ P, isPerm ns = P := ⟨_, rfl⟩
  rw [hP]
  go_enter Try.func17, Try.ntmps17
  go_wp2_with (first | (go_at_call 25; refine Calls.mono (gw_at (ridx_b _ _ _ _ (by assumption) _ (Cs.to (by with_reducible assumption) (by repeat (first | with_reducible exact Below.refl _ _ | with_reducible assumption | refine bgw ?_ (by first | (simp; done) | (simp; omega) | omega) _ | refine Below.setCell ?_ (by first | exact Nat.le_of_not_lt (by assumption) | (simp; done) | (simp; omega) | omega) _ | refine Below.alloc ?_ (by first | (simp; done) | (simp; omega) | omega) _ | refine Below.drew ?_))))) ?_; rintro e w1 ⟨rfl, q, rfl⟩))
  go_loopw [3] (fun i wr => ∃ k : Nat, k ≤ ns.length ∧ i = .int .i64 k ∧ (∀ j : Nat, j < k → (j : Int) ∈ ns) ∧ Below w.heap.size w wr)
    (fun i _ => (ns.length - intOf i).toNat)
  case atStart => exact ⟨0, by omega, rfl, fun j hj => by omega, (by repeat (first | with_reducible exact Below.refl _ _ | with_reducible assumption | refine bgw ?_ (by first | (simp; done) | (simp; omega) | omega) _ | refine Below.setCell ?_ (by first | exact Nat.le_of_not_lt (by assumption) | (simp; done) | (simp; omega) | omega) _ | refine Below.alloc ?_ (by first | (simp; done) | (simp; omega) | omega) _ | refine Below.drew ?_))⟩
  case round =>
    obtain ⟨k, hk, rfl, hall, hbw⟩ := hrel
    have hsz := hbw.size
    by_cases hlt : k < ns.length
    · have i0 : (0 : Int) ≤ (k : Int) := by omega
      have i1 : (k : Int) < (ns.length : Int) := by omega
      have hpr := hp.to hbw
      by_cases hx : (k : Int) ∈ ns
      · have hx' : ¬ ix ns k < 0 := fun h => ix_neg.1 h hx
        go_wp2_with (first | (go_at_call 25; refine Calls.mono (gw_at (ridx_b _ _ _ _ (by assumption) _ (Cs.to (by with_reducible assumption) (by repeat (first | with_reducible exact Below.refl _ _ | with_reducible assumption | refine bgw ?_ (by first | (simp; done) | (simp; omega) | omega) _ | refine Below.setCell ?_ (by first | exact Nat.le_of_not_lt (by assumption) | (simp; done) | (simp; omega) | omega) _ | refine Below.alloc ?_ (by first | (simp; done) | (simp; omega) | omega) _ | refine Below.drew ?_))))) ?_; rintro e w1 ⟨rfl, q, rfl⟩))
        refine ⟨⟨k + 1, by omega, by go_num, fun j hj => ?_, (by repeat (first | with_reducible exact Below.refl _ _ | with_reducible assumption | refine bgw ?_ (by first | (simp; done) | (simp; omega) | omega) _ | refine Below.setCell ?_ (by first | exact Nat.le_of_not_lt (by assumption) | (simp; done) | (simp; omega) | omega) _ | refine Below.alloc ?_ (by first | (simp; done) | (simp; omega) | omega) _ | refine Below.drew ?_))⟩, by (try go_num); simp [intOf]; (try omega)⟩
        by_cases hjk : j = k
        · rw [hjk]; exact hx
        · exact hall j (by omega)
      · have hx' : ix ns k < 0 := ix_neg.2 hx
        have e : P = false := hP.symm.trans (by
          cases h : isPerm ns with
          | false => rfl
          | true => exact absurd (of_decide_eq_true h k hlt) hx)
        subst e
        go_wp2_with (first | (go_at_call 25; refine Calls.mono (gw_at (ridx_b _ _ _ _ (by assumption) _ (Cs.to (by with_reducible assumption) (by repeat (first | with_reducible exact Below.refl _ _ | with_reducible assumption | refine bgw ?_ (by first | (simp; done) | (simp; omega) | omega) _ | refine Below.setCell ?_ (by first | exact Nat.le_of_not_lt (by assumption) | (simp; done) | (simp; omega) | omega) _ | refine Below.alloc ?_ (by first | (simp; done) | (simp; omega) | omega) _ | refine Below.drew ?_))))) ?_; rintro e w1 ⟨rfl, q, rfl⟩))
        go_ret
        exact ⟨rfl, (by repeat (first | with_reducible exact Below.refl _ _ | with_reducible assumption | refine bgw ?_ (by first | (simp; done) | (simp; omega) | omega) _ | refine Below.setCell ?_ (by first | exact Nat.le_of_not_lt (by assumption) | (simp; done) | (simp; omega) | omega) _ | refine Below.alloc ?_ (by first | (simp; done) | (simp; omega) | omega) _ | refine Below.drew ?_))⟩
    · obtain rfl : k = ns.length := by omega
      have i1 : ¬ (ns.length : Int) < (ns.length : Int) := by omega
      have e : P = true := hP.symm.trans (decide_eq_true hall)
      subst e
      go_wp2_with (first | (go_at_call 25; refine Calls.mono (gw_at (ridx_b _ _ _ _ (by assumption) _ (Cs.to (by with_reducible assumption) (by repeat (first | with_reducible exact Below.refl _ _ | with_reducible assumption | refine bgw ?_ (by first | (simp; done) | (simp; omega) | omega) _ | refine Below.setCell ?_ (by first | exact Nat.le_of_not_lt (by assumption) | (simp; done) | (simp; omega) | omega) _ | refine Below.alloc ?_ (by first | (simp; done) | (simp; omega) | omega) _ | refine Below.drew ?_))))) ?_; rintro e w1 ⟨rfl, q, rfl⟩))
      go_ret
      exact ⟨rfl, (by repeat (first | with_reducible exact Below.refl _ _ | with_reducible assumption | refine bgw ?_ (by first | (simp; done) | (simp; omega) | omega) _ | refine Below.setCell ?_ (by first | exact Nat.le_of_not_lt (by assumption) | (simp; done) | (simp; omega) | omega) _ | refine Below.alloc ?_ (by first | (simp; done) | (simp; omega) | omega) _ | refine Below.drew ?_))⟩

theorem req_b (A B : Option Addr) (ca cb : Nat) (ns ms : List Int) (hn : ns.length ≤ 65536) (hm : ms.length ≤ 65536) (w : World) (ha : Ints w A ns) (hb : Ints w B ms) : Calls Try.prog 11 #[.slice A ns.length ca, .slice B ms.length cb] w fun e w' => e = .returned (.bool (decide (ns = ms))) ∧ Below w.heap.size w w' := by
  obtain ⟨P, hP⟩ : ∃ P, decide (ns = ms) = P := ⟨_, rfl⟩
  rw [hP]
  by_cases hlen : ns.length = ms.length
  rotate_left
  focus
    have e : P = false := hP.symm.trans (decide_eq_false fun h => hlen (by rw [h]))
    subst e
    have hlen' : ¬ (ns.length : Int) = (ms.length : Int) := by omega
    go_enter Try.func11, Try.ntmps11
    go_wp2_with fail
    repeat
      refine wp_region_gw (by kernel_rfl) (by kernel_rfl) ?_
      repeat (go_big_quiet_step (fail))
      refine wpQuiet_nil ?_
      intro w1 hw1
      obtain ⟨q, rfl⟩ := hw1
      go_wp2_with fail
    go_ret
    exact ⟨rfl, (by repeat (first | with_reducible exact Below.refl _ _ | with_reducible assumption | refine bgw ?_ (by first | (simp; done) | (simp; omega) | omega) _ | refine Below.setCell ?_ (by first | exact Nat.le_of_not_lt (by assumption) | (simp; done) | (simp; omega) | omega) _ | refine Below.alloc ?_ (by first | (simp; done) | (simp; omega) | omega) _ | refine Below.drew ?_))⟩
  rw [hlen]
  go_enter Try.func11, Try.ntmps11
  go_wp2_with fail
  go_loopw [5] (fun i wr => ∃ k : Nat, k ≤ ms.length ∧ i = .int .i64 k ∧ ns.take k = ms.take k ∧ Below w.heap.size w wr)
    (fun i _ => (ms.length - intOf i).toNat)
  case atStart => exact ⟨0, by omega, rfl, by simp, (by repeat (first | with_reducible exact Below.refl _ _ | with_reducible assumption | refine bgw ?_ (by first | (simp; done) | (simp; omega) | omega) _ | refine Below.setCell ?_ (by first | exact Nat.le_of_not_lt (by assumption) | (simp; done) | (simp; omega) | omega) _ | refine Below.alloc ?_ (by first | (simp; done) | (simp; omega) | omega) _ | refine Below.drew ?_))⟩
  case round =>
    obtain ⟨k, hk, rfl, hall, hbw⟩ := hrel
    have hsz := hbw.size
    by_cases hlt : k < ms.length
    · have i0 : (0 : Int) ≤ (k : Int) := by omega
      have i1 : (k : Int) < (ms.length : Int) := by omega
      obtain ⟨b1, off1, rfl, h1⟩ := Ints.open (ha.to hbw) (by omega)
      obtain ⟨b2, off2, rfl, h2⟩ := Ints.open (hb.to hbw) (by omega)
      have d1 := h1 k (by omega)
      have d2 := h2 k hlt
      have o1 := older_of_cell d1
      have o2 := older_of_cell d2
      generalize hx : ns[k] = x at *
      generalize hy : ms[k] = y at *
      by_cases hxy : x = y
      · subst hxy
        go_wp2_with fail
        refine wp_region_gw (by kernel_rfl) (by kernel_rfl) ?_
        repeat (go_big_quiet_step (fail))
        refine wpQuiet_nil ?_
        intro w1 hw1
        obtain ⟨q, rfl⟩ := hw1
        go_wp2_with fail
        refine ⟨⟨k + 1, by omega, by go_num, ?_, (by repeat (first | with_reducible exact Below.refl _ _ | with_reducible assumption | refine bgw ?_ (by first | (simp; done) | (simp; omega) | omega) _ | refine Below.setCell ?_ (by first | exact Nat.le_of_not_lt (by assumption) | (simp; done) | (simp; omega) | omega) _ | refine Below.alloc ?_ (by first | (simp; done) | (simp; omega) | omega) _ | refine Below.drew ?_))⟩, by (try go_num); simp [intOf]; (try omega)⟩
        rw [List.take_add_one, List.take_add_one, List.getElem?_eq_getElem (show k < ns.length by omega), List.getElem?_eq_getElem hlt, hall, hx, hy]
      · have e : P = false := hP.symm.trans (decide_eq_false fun h => hxy (by rw [← hx, ← hy]; simp only [h]))
        subst e
        go_wp2_with fail
        refine wp_region_gw (by kernel_rfl) (by kernel_rfl) ?_
        repeat (go_big_quiet_step (fail))
        refine wpQuiet_nil ?_
        intro w1 hw1
        obtain ⟨q, rfl⟩ := hw1
        go_wp2_with fail
        go_ret
        exact ⟨rfl, (by repeat (first | with_reducible exact Below.refl _ _ | with_reducible assumption | refine bgw ?_ (by first | (simp; done) | (simp; omega) | omega) _ | refine Below.setCell ?_ (by first | exact Nat.le_of_not_lt (by assumption) | (simp; done) | (simp; omega) | omega) _ | refine Below.alloc ?_ (by first | (simp; done) | (simp; omega) | omega) _ | refine Below.drew ?_))⟩
    · obtain rfl : k = ms.length := by omega
      have i1 : ¬ (ms.length : Int) < (ms.length : Int) := by omega
      have e : P = true := hP.symm.trans (decide_eq_true (by rw [List.take_length, ← hlen, List.take_length] at hall; exact hall))
      subst e
      go_wp2_with fail
      go_ret
      exact ⟨rfl, (by repeat (first | with_reducible exact Below.refl _ _ | with_reducible assumption | refine bgw ?_ (by first | (simp; done) | (simp; omega) | omega) _ | refine Below.setCell ?_ (by first | exact Nat.le_of_not_lt (by assumption) | (simp; done) | (simp; omega) | omega) _ | refine Below.alloc ?_ (by first | (simp; done) | (simp; omega) | omega) _ | refine Below.drew ?_))⟩

theorem rinv_b (A : Option Addr) (cap : Nat) (ns : List Int) (hl : ns.length ≤ 65536) (w : World) (hp : Ints w A ns) : Calls Try.prog 19 #[.slice A ns.length cap] w fun e w' => (∃ A' cap', e = .returned (.slice A' (inv ns).length cap') ∧ (inv ns).length ≤ cap' ∧ Ints w' A' (inv ns)) ∧ Below w.heap.size w w' := by
  obtain ⟨i0, hi, hz0, hz1, hz2⟩ := info_parts info_int
  cases hP : isPerm ns
  focus
    rw [show inv ns = [] from by simp [inv, hP]]
    go_enter Try.func19, Try.ntmps19
    go_wp2_with (first | (go_at_call 17; (first | (refine Calls.mono (gw_at (boolIs (risp_b _ _ _ (by assumption) _ (Cs.to (by with_reducible assumption) (by repeat (first | with_reducible exact Below.refl _ _ | with_reducible assumption | refine bgw ?_ (by first | (simp; done) | (simp; omega) | omega) _ | refine Below.setCell ?_ (by first | exact Nat.le_of_not_lt (by assumption) | (simp; done) | (simp; omega) | omega) _ | refine Below.alloc ?_ (by first | (simp; done) | (simp; omega) | omega) _ | refine Below.drew ?_)))) (b := true) (by assumption))) ?_; rintro e w1 ⟨rfl, q, rfl⟩) | (refine Calls.mono (gw_at (boolIs (risp_b _ _ _ (by assumption) _ (Cs.to (by with_reducible assumption) (by repeat (first | with_reducible exact Below.refl _ _ | with_reducible assumption | refine bgw ?_ (by first | (simp; done) | (simp; omega) | omega) _ | refine Below.setCell ?_ (by first | exact Nat.le_of_not_lt (by assumption) | (simp; done) | (simp; omega) | omega) _ | refine Below.alloc ?_ (by first | (simp; done) | (simp; omega) | omega) _ | refine Below.drew ?_)))) (b := false) (by assumption))) ?_; rintro e w1 ⟨rfl, q, rfl⟩) | (refine Calls.mono (gw_at (risp_b _ _ _ (by assumption) _ (Cs.to (by with_reducible assumption) (by repeat (first | with_reducible exact Below.refl _ _ | with_reducible assumption | refine bgw ?_ (by first | (simp; done) | (simp; omega) | omega) _ | refine Below.setCell ?_ (by first | exact Nat.le_of_not_lt (by assumption) | (simp; done) | (simp; omega) | omega) _ | refine Below.alloc ?_ (by first | (simp; done) | (simp; omega) | omega) _ | refine Below.drew ?_))))) ?_; rintro e w1 ⟨rfl, q, rfl⟩))) | (go_at_call 25; refine Calls.mono (gw_at (ridx_b _ _ _ _ (by assumption) _ (Cs.to (by with_reducible assumption) (by repeat (first | with_reducible exact Below.refl _ _ | with_reducible assumption | refine bgw ?_ (by first | (simp; done) | (simp; omega) | omega) _ | refine Below.setCell ?_ (by first | exact Nat.le_of_not_lt (by assumption) | (simp; done) | (simp; omega) | omega) _ | refine Below.alloc ?_ (by first | (simp; done) | (simp; omega) | omega) _ | refine Below.drew ?_))))) ?_; rintro e w1 ⟨rfl, q, rfl⟩))
    go_ret
    exact ⟨⟨none, 0, rfl, Nat.le_refl _, Cs.nil _ _⟩, (by repeat (first | with_reducible exact Below.refl _ _ | with_reducible assumption | refine bgw ?_ (by first | (simp; done) | (simp; omega) | omega) _ | refine Below.setCell ?_ (by first | exact Nat.le_of_not_lt (by assumption) | (simp; done) | (simp; omega) | omega) _ | refine Below.alloc ?_ (by first | (simp; done) | (simp; omega) | omega) _ | refine Below.drew ?_))⟩
  obtain ⟨X, hX⟩ : ∃ X, (rng ns.length).map (ix ns) = X := ⟨_, rfl⟩
  rw [show inv ns = X from by simp [inv, hP, hX]]
  have hXl : X.length = ns.length := by rw [← hX]; simp
  go_enter Try.func19, Try.ntmps19
  go_wp2_with (first | (go_at_call 17; (first | (refine Calls.mono (gw_at (boolIs (risp_b _ _ _ (by assumption) _ (Cs.to (by with_reducible assumption) (by repeat (first | with_reducible exact Below.refl _ _ | with_reducible assumption | refine bgw ?_ (by first | (simp; done) | (simp; omega) | omega) _ | refine Below.setCell ?_ (by first | exact Nat.le_of_not_lt (by assumption) | (simp; done) | (simp; omega) | omega) _ | refine Below.alloc ?_ (by first | (simp; done) | (simp; omega) | omega) _ | refine Below.drew ?_)))) (b := true) (by assumption))) ?_; rintro e w1 ⟨rfl, q, rfl⟩) | (refine Calls.mono (gw_at (boolIs (risp_b _ _ _ (by assumption) _ (Cs.to (by with_reducible assumption) (by repeat (first | with_reducible exact Below.refl _ _ | with_reducible assumption | refine bgw ?_ (by first | (simp; done) | (simp; omega) | omega) _ | refine Below.setCell ?_ (by first | exact Nat.le_of_not_lt (by assumption) | (simp; done) | (simp; omega) | omega) _ | refine Below.alloc ?_ (by first | (simp; done) | (simp; omega) | omega) _ | refine Below.drew ?_)))) (b := false) (by assumption))) ?_; rintro e w1 ⟨rfl, q, rfl⟩) | (refine Calls.mono (gw_at (risp_b _ _ _ (by assumption) _ (Cs.to (by with_reducible assumption) (by repeat (first | with_reducible exact Below.refl _ _ | with_reducible assumption | refine bgw ?_ (by first | (simp; done) | (simp; omega) | omega) _ | refine Below.setCell ?_ (by first | exact Nat.le_of_not_lt (by assumption) | (simp; done) | (simp; omega) | omega) _ | refine Below.alloc ?_ (by first | (simp; done) | (simp; omega) | omega) _ | refine Below.drew ?_))))) ?_; rintro e w1 ⟨rfl, q, rfl⟩))) | (go_at_call 25; refine Calls.mono (gw_at (ridx_b _ _ _ _ (by assumption) _ (Cs.to (by with_reducible assumption) (by repeat (first | with_reducible exact Below.refl _ _ | with_reducible assumption | refine bgw ?_ (by first | (simp; done) | (simp; omega) | omega) _ | refine Below.setCell ?_ (by first | exact Nat.le_of_not_lt (by assumption) | (simp; done) | (simp; omega) | omega) _ | refine Below.alloc ?_ (by first | (simp; done) | (simp; omega) | omega) _ | refine Below.drew ?_))))) ?_; rintro e w1 ⟨rfl, q, rfl⟩))
  go_loopw [3, 4] (fun v i wr => ∃ k : Nat, k ≤ ns.length ∧ i = .int .i64 k ∧ wr.ownsRow w.heap.size 3 1 v k (iv (X.take k)) ∧ Below w.heap.size w wr)
    (fun _ i _ => (ns.length - intOf i).toNat)
  case atStart => exact ⟨0, by omega, rfl, World.ownsRow_nil _ _ _ _, (by repeat (first | with_reducible exact Below.refl _ _ | with_reducible assumption | refine bgw ?_ (by first | (simp; done) | (simp; omega) | omega) _ | refine Below.setCell ?_ (by first | exact Nat.le_of_not_lt (by assumption) | (simp; done) | (simp; omega) | omega) _ | refine Below.alloc ?_ (by first | (simp; done) | (simp; omega) | omega) _ | refine Below.drew ?_))⟩
  case round =>
    obtain ⟨k, hk, rfl, hown, hbw⟩ := hrel
    have hsz := hbw.size
    by_cases hlt : k < ns.length
    · have j0 : (0 : Int) ≤ (k : Int) := by omega
      have i1 : (k : Int) < (ns.length : Int) := by omega
      have hpr := hp.to hbw
      have hXk : X[k]'(by omega) = ix ns k := by simp [← hX, rng_get]
      go_wp2_with (first | (at_builtin; refine wpList_app1 rfl _ _ 24 rfl w.heap.size 3 i0 (.int .i64 0) 8 Try.underlying24 hi hz0 hz1 hz2 rfl _ _ _ rfl (owns_below hown (by repeat (first | with_reducible exact Below.refl _ _ | with_reducible assumption | refine bgw ?_ (by first | (simp; done) | (simp; omega) | omega) _ | refine Below.setCell ?_ (by first | exact Nat.le_of_not_lt (by assumption) | (simp; done) | (simp; omega) | omega) _ | refine Below.alloc ?_ (by first | (simp; done) | (simp; omega) | omega) _ | refine Below.drew ?_))) _ (.int .i64 (ix ns k)) rfl (blk_cell (c := #[.int .i64 (ix ns k)]) (by repeat (first | with_reducible exact blk_new _ _ _ | ((with_reducible refine blk_at ?_); (simp; done)) | with_reducible apply blk_alloc | with_reducible apply blk_gw)) 0) rfl (by unfold maxLen; omega) (by omega) (by first | (simp; omega) | omega) ?_; intro v' w2 hown2 hb2) | (first | (go_at_call 17; (first | (refine Calls.mono (gw_at (boolIs (risp_b _ _ _ (by assumption) _ (Cs.to (by with_reducible assumption) (by repeat (first | with_reducible exact Below.refl _ _ | with_reducible assumption | refine bgw ?_ (by first | (simp; done) | (simp; omega) | omega) _ | refine Below.setCell ?_ (by first | exact Nat.le_of_not_lt (by assumption) | (simp; done) | (simp; omega) | omega) _ | refine Below.alloc ?_ (by first | (simp; done) | (simp; omega) | omega) _ | refine Below.drew ?_)))) (b := true) (by assumption))) ?_; rintro e w1 ⟨rfl, q, rfl⟩) | (refine Calls.mono (gw_at (boolIs (risp_b _ _ _ (by assumption) _ (Cs.to (by with_reducible assumption) (by repeat (first | with_reducible exact Below.refl _ _ | with_reducible assumption | refine bgw ?_ (by first | (simp; done) | (simp; omega) | omega) _ | refine Below.setCell ?_ (by first | exact Nat.le_of_not_lt (by assumption) | (simp; done) | (simp; omega) | omega) _ | refine Below.alloc ?_ (by first | (simp; done) | (simp; omega) | omega) _ | refine Below.drew ?_)))) (b := false) (by assumption))) ?_; rintro e w1 ⟨rfl, q, rfl⟩) | (refine Calls.mono (gw_at (risp_b _ _ _ (by assumption) _ (Cs.to (by with_reducible assumption) (by repeat (first | with_reducible exact Below.refl _ _ | with_reducible assumption | refine bgw ?_ (by first | (simp; done) | (simp; omega) | omega) _ | refine Below.setCell ?_ (by first | exact Nat.le_of_not_lt (by assumption) | (simp; done) | (simp; omega) | omega) _ | refine Below.alloc ?_ (by first | (simp; done) | (simp; omega) | omega) _ | refine Below.drew ?_))))) ?_; rintro e w1 ⟨rfl, q, rfl⟩))) | (go_at_call 25; refine Calls.mono (gw_at (ridx_b _ _ _ _ (by assumption) _ (Cs.to (by with_reducible assumption) (by repeat (first | with_reducible exact Below.refl _ _ | with_reducible assumption | refine bgw ?_ (by first | (simp; done) | (simp; omega) | omega) _ | refine Below.setCell ?_ (by first | exact Nat.le_of_not_lt (by assumption) | (simp; done) | (simp; omega) | omega) _ | refine Below.alloc ?_ (by first | (simp; done) | (simp; omega) | omega) _ | refine Below.drew ?_))))) ?_; rintro e w1 ⟨rfl, q, rfl⟩)))
      refine ⟨⟨k + 1, by omega, by go_num, ?_, ?_⟩, by (try go_num); simp [intOf]; (try omega)⟩
      · rw [List.take_add_one, List.getElem?_eq_getElem (by omega), hXk, iv_append]; exact hown2
      · exact Below.trans (by repeat (first | with_reducible exact Below.refl _ _ | with_reducible assumption | refine bgw ?_ (by first | (simp; done) | (simp; omega) | omega) _ | refine Below.setCell ?_ (by first | exact Nat.le_of_not_lt (by assumption) | (simp; done) | (simp; omega) | omega) _ | refine Below.alloc ?_ (by first | (simp; done) | (simp; omega) | omega) _ | refine Below.drew ?_)) hb2
    · obtain rfl : k = ns.length := by omega
      have i1 : ¬ (ns.length : Int) < (ns.length : Int) := by omega
      rw [← hXl, List.take_length] at hown
      obtain ⟨A', cap', rfl, hle, _, hcs⟩ := owns_cs hown
      go_wp2_with (first | (go_at_call 17; (first | (refine Calls.mono (gw_at (boolIs (risp_b _ _ _ (by assumption) _ (Cs.to (by with_reducible assumption) (by repeat (first | with_reducible exact Below.refl _ _ | with_reducible assumption | refine bgw ?_ (by first | (simp; done) | (simp; omega) | omega) _ | refine Below.setCell ?_ (by first | exact Nat.le_of_not_lt (by assumption) | (simp; done) | (simp; omega) | omega) _ | refine Below.alloc ?_ (by first | (simp; done) | (simp; omega) | omega) _ | refine Below.drew ?_)))) (b := true) (by assumption))) ?_; rintro e w1 ⟨rfl, q, rfl⟩) | (refine Calls.mono (gw_at (boolIs (risp_b _ _ _ (by assumption) _ (Cs.to (by with_reducible assumption) (by repeat (first | with_reducible exact Below.refl _ _ | with_reducible assumption | refine bgw ?_ (by first | (simp; done) | (simp; omega) | omega) _ | refine Below.setCell ?_ (by first | exact Nat.le_of_not_lt (by assumption) | (simp; done) | (simp; omega) | omega) _ | refine Below.alloc ?_ (by first | (simp; done) | (simp; omega) | omega) _ | refine Below.drew ?_)))) (b := false) (by assumption))) ?_; rintro e w1 ⟨rfl, q, rfl⟩) | (refine Calls.mono (gw_at (risp_b _ _ _ (by assumption) _ (Cs.to (by with_reducible assumption) (by repeat (first | with_reducible exact Below.refl _ _ | with_reducible assumption | refine bgw ?_ (by first | (simp; done) | (simp; omega) | omega) _ | refine Below.setCell ?_ (by first | exact Nat.le_of_not_lt (by assumption) | (simp; done) | (simp; omega) | omega) _ | refine Below.alloc ?_ (by first | (simp; done) | (simp; omega) | omega) _ | refine Below.drew ?_))))) ?_; rintro e w1 ⟨rfl, q, rfl⟩))) | (go_at_call 25; refine Calls.mono (gw_at (ridx_b _ _ _ _ (by assumption) _ (Cs.to (by with_reducible assumption) (by repeat (first | with_reducible exact Below.refl _ _ | with_reducible assumption | refine bgw ?_ (by first | (simp; done) | (simp; omega) | omega) _ | refine Below.setCell ?_ (by first | exact Nat.le_of_not_lt (by assumption) | (simp; done) | (simp; omega) | omega) _ | refine Below.alloc ?_ (by first | (simp; done) | (simp; omega) | omega) _ | refine Below.drew ?_))))) ?_; rintro e w1 ⟨rfl, q, rfl⟩))
      go_ret
      exact ⟨⟨A', cap', rfl, by omega, Cs.to hcs (by repeat (first | with_reducible exact Below.refl _ _ | with_reducible assumption | refine bgw ?_ (by first | (simp; done) | (simp; omega) | omega) _ | refine Below.setCell ?_ (by first | exact Nat.le_of_not_lt (by assumption) | (simp; done) | (simp; omega) | omega) _ | refine Below.alloc ?_ (by first | (simp; done) | (simp; omega) | omega) _ | refine Below.drew ?_))⟩, (by repeat (first | with_reducible exact Below.refl _ _ | with_reducible assumption | refine bgw ?_ (by first | (simp; done) | (simp; omega) | omega) _ | refine Below.setCell ?_ (by first | exact Nat.le_of_not_lt (by assumption) | (simp; done) | (simp; omega) | omega) _ | refine Below.alloc ?_ (by first | (simp; done) | (simp; omega) | omega) _ | refine Below.drew ?_))⟩

theorem rapp_b (L A : Option Addr) (cl cap : Nat) (ls ns : List Int) (hll : ls.length ≤ 65536) (hl : ns.length ≤ 65536) (w : World) (hq : Ints w L ls) (hp : Ints w A ns) : Calls Try.prog 23 #[.slice L ls.length cl, .slice A ns.length cap] w fun e w' => (∃ A' cap', e = .returned (.slice A' (app 0 ls ns).length cap') ∧ (app 0 ls ns).length ≤ cap' ∧ Ints w' A' (app 0 ls ns)) ∧ Below w.heap.size w w' := by
  obtain ⟨i0, hi, hz0, hz1, hz2⟩ := info_parts info_int
  cases hP : isPerm ns
  focus
    rw [show app 0 ls ns = [] from by simp [app, hP]]
    go_enter Try.func23, Try.ntmps23
    go_wp2_with (first | (go_at_call 17; (first | (refine Calls.mono (gw_at (boolIs (risp_b _ _ _ (by assumption) _ (Cs.to (by with_reducible assumption) (by repeat (first | with_reducible exact Below.refl _ _ | with_reducible assumption | refine bgw ?_ (by first | (simp; done) | (simp; omega) | omega) _ | refine Below.setCell ?_ (by first | exact Nat.le_of_not_lt (by assumption) | (simp; done) | (simp; omega) | omega) _ | refine Below.alloc ?_ (by first | (simp; done) | (simp; omega) | omega) _ | refine Below.drew ?_)))) (b := true) (by assumption))) ?_; rintro e w1 ⟨rfl, q, rfl⟩) | (refine Calls.mono (gw_at (boolIs (risp_b _ _ _ (by assumption) _ (Cs.to (by with_reducible assumption) (by repeat (first | with_reducible exact Below.refl _ _ | with_reducible assumption | refine bgw ?_ (by first | (simp; done) | (simp; omega) | omega) _ | refine Below.setCell ?_ (by first | exact Nat.le_of_not_lt (by assumption) | (simp; done) | (simp; omega) | omega) _ | refine Below.alloc ?_ (by first | (simp; done) | (simp; omega) | omega) _ | refine Below.drew ?_)))) (b := false) (by assumption))) ?_; rintro e w1 ⟨rfl, q, rfl⟩) | (refine Calls.mono (gw_at (risp_b _ _ _ (by assumption) _ (Cs.to (by with_reducible assumption) (by repeat (first | with_reducible exact Below.refl _ _ | with_reducible assumption | refine bgw ?_ (by first | (simp; done) | (simp; omega) | omega) _ | refine Below.setCell ?_ (by first | exact Nat.le_of_not_lt (by assumption) | (simp; done) | (simp; omega) | omega) _ | refine Below.alloc ?_ (by first | (simp; done) | (simp; omega) | omega) _ | refine Below.drew ?_))))) ?_; rintro e w1 ⟨rfl, q, rfl⟩))))
    go_ret
    exact ⟨⟨none, 0, rfl, Nat.le_refl _, Cs.nil _ _⟩, (by repeat (first | with_reducible exact Below.refl _ _ | with_reducible assumption | refine bgw ?_ (by first | (simp; done) | (simp; omega) | omega) _ | refine Below.setCell ?_ (by first | exact Nat.le_of_not_lt (by assumption) | (simp; done) | (simp; omega) | omega) _ | refine Below.alloc ?_ (by first | (simp; done) | (simp; omega) | omega) _ | refine Below.drew ?_))⟩
  by_cases hlen : ls.length = ns.length
  rotate_left
  focus
    rw [show app 0 ls ns = [] from by simp [app, hP, hlen]]
    have hlen' : ¬ (ls.length : Int) = (ns.length : Int) := by omega
    go_enter Try.func23, Try.ntmps23
    go_wp2_with (first | (go_at_call 17; (first | (refine Calls.mono (gw_at (boolIs (risp_b _ _ _ (by assumption) _ (Cs.to (by with_reducible assumption) (by repeat (first | with_reducible exact Below.refl _ _ | with_reducible assumption | refine bgw ?_ (by first | (simp; done) | (simp; omega) | omega) _ | refine Below.setCell ?_ (by first | exact Nat.le_of_not_lt (by assumption) | (simp; done) | (simp; omega) | omega) _ | refine Below.alloc ?_ (by first | (simp; done) | (simp; omega) | omega) _ | refine Below.drew ?_)))) (b := true) (by assumption))) ?_; rintro e w1 ⟨rfl, q, rfl⟩) | (refine Calls.mono (gw_at (boolIs (risp_b _ _ _ (by assumption) _ (Cs.to (by with_reducible assumption) (by repeat (first | with_reducible exact Below.refl _ _ | with_reducible assumption | refine bgw ?_ (by first | (simp; done) | (simp; omega) | omega) _ | refine Below.setCell ?_ (by first | exact Nat.le_of_not_lt (by assumption) | (simp; done) | (simp; omega) | omega) _ | refine Below.alloc ?_ (by first | (simp; done) | (simp; omega) | omega) _ | refine Below.drew ?_)))) (b := false) (by assumption))) ?_; rintro e w1 ⟨rfl, q, rfl⟩) | (refine Calls.mono (gw_at (risp_b _ _ _ (by assumption) _ (Cs.to (by with_reducible assumption) (by repeat (first | with_reducible exact Below.refl _ _ | with_reducible assumption | refine bgw ?_ (by first | (simp; done) | (simp; omega) | omega) _ | refine Below.setCell ?_ (by first | exact Nat.le_of_not_lt (by assumption) | (simp; done) | (simp; omega) | omega) _ | refine Below.alloc ?_ (by first | (simp; done) | (simp; omega) | omega) _ | refine Below.drew ?_))))) ?_; rintro e w1 ⟨rfl, q, rfl⟩))))
    go_ret
    exact ⟨⟨none, 0, rfl, Nat.le_refl _, Cs.nil _ _⟩, (by repeat (first | with_reducible exact Below.refl _ _ | with_reducible assumption | refine bgw ?_ (by first | (simp; done) | (simp; omega) | omega) _ | refine Below.setCell ?_ (by first | exact Nat.le_of_not_lt (by assumption) | (simp; done) | (simp; omega) | omega) _ | refine Below.alloc ?_ (by first | (simp; done) | (simp; omega) | omega) _ | refine Below.drew ?_))⟩
  obtain ⟨X, hX⟩ : ∃ X, (ns.map fun i => ls.getD i.toNat 0) = X := ⟨_, rfl⟩
  rw [show app 0 ls ns = X from by rw [← hX]; simp [app, hP, hlen]]
  have hXl : X.length = ns.length := by rw [← hX]; simp
  have hlen' : (ls.length : Int) = (ns.length : Int) := by omega
  go_enter Try.func23, Try.ntmps23
  go_wp2_with (first | (go_at_call 17; (first | (refine Calls.mono (gw_at (boolIs (risp_b _ _ _ (by assumption) _ (Cs.to (by with_reducible assumption) (by repeat (first | with_reducible exact Below.refl _ _ | with_reducible assumption | refine bgw ?_ (by first | (simp; done) | (simp; omega) | omega) _ | refine Below.setCell ?_ (by first | exact Nat.le_of_not_lt (by assumption) | (simp; done) | (simp; omega) | omega) _ | refine Below.alloc ?_ (by first | (simp; done) | (simp; omega) | omega) _ | refine Below.drew ?_)))) (b := true) (by assumption))) ?_; rintro e w1 ⟨rfl, q, rfl⟩) | (refine Calls.mono (gw_at (boolIs (risp_b _ _ _ (by assumption) _ (Cs.to (by with_reducible assumption) (by repeat (first | with_reducible exact Below.refl _ _ | with_reducible assumption | refine bgw ?_ (by first | (simp; done) | (simp; omega) | omega) _ | refine Below.setCell ?_ (by first | exact Nat.le_of_not_lt (by assumption) | (simp; done) | (simp; omega) | omega) _ | refine Below.alloc ?_ (by first | (simp; done) | (simp; omega) | omega) _ | refine Below.drew ?_)))) (b := false) (by assumption))) ?_; rintro e w1 ⟨rfl, q, rfl⟩) | (refine Calls.mono (gw_at (risp_b _ _ _ (by assumption) _ (Cs.to (by with_reducible assumption) (by repeat (first | with_reducible exact Below.refl _ _ | with_reducible assumption | refine bgw ?_ (by first | (simp; done) | (simp; omega) | omega) _ | refine Below.setCell ?_ (by first | exact Nat.le_of_not_lt (by assumption) | (simp; done) | (simp; omega) | omega) _ | refine Below.alloc ?_ (by first | (simp; done) | (simp; omega) | omega) _ | refine Below.drew ?_))))) ?_; rintro e w1 ⟨rfl, q, rfl⟩))))
  go_loopw [5, 6] (fun v i wr => ∃ k : Nat, k ≤ ns.length ∧ i = .int .i64 k ∧ wr.ownsRow w.heap.size 3 1 v k (iv (X.take k)) ∧ Below w.heap.size w wr)
    (fun _ i _ => (ns.length - intOf i).toNat)
  case atStart => exact ⟨0, by omega, rfl, World.ownsRow_nil _ _ _ _, (by repeat (first | with_reducible exact Below.refl _ _ | with_reducible assumption | refine bgw ?_ (by first | (simp; done) | (simp; omega) | omega) _ | refine Below.setCell ?_ (by first | exact Nat.le_of_not_lt (by assumption) | (simp; done) | (simp; omega) | omega) _ | refine Below.alloc ?_ (by first | (simp; done) | (simp; omega) | omega) _ | refine Below.drew ?_))⟩
  case round =>
    obtain ⟨k, hk, rfl, hown, hbw⟩ := hrel
    have hsz := hbw.size
    by_cases hlt : k < ns.length
    · have j0 : (0 : Int) ≤ (k : Int) := by omega
      have i1 : (k : Int) < (ns.length : Int) := by omega
      obtain ⟨b, off, rfl, hce⟩ := Ints.open (hp.to hbw) (by omega)
      obtain ⟨b2, off2, rfl, hce2⟩ := Ints.open (hq.to hbw) (by omega)
      obtain ⟨x0, x1⟩ := isPerm_in hP (List.getElem_mem hlt)
      have d1 := hce k hlt
      have hXk : X[k]'(by omega) = ls.getD ns[k].toNat 0 := by simp [← hX]
      generalize hx : ns[k] = x at *
      have hxl : x.toNat < ls.length := by omega
      have x2 : x < (ls.length : Int) := by omega
      have d2 := hce2 x.toNat hxl
      have hXk' : X[k]'(by omega) = ls[x.toNat] := by rw [hXk, List.getD_eq_getElem?_getD, List.getElem?_eq_getElem hxl]; rfl
      clear hXk hlen'
      obtain ⟨y, hy⟩ : ∃ y, ls[x.toNat] = y := ⟨_, rfl⟩
      rw [hy] at d2 hXk'
      go_wp2_with (first | (at_builtin; refine wpList_app1 rfl _ _ 24 rfl w.heap.size 3 i0 (.int .i64 0) 8 Try.underlying24 hi hz0 hz1 hz2 rfl _ _ _ rfl (owns_below hown (by repeat (first | with_reducible exact Below.refl _ _ | with_reducible assumption | refine bgw ?_ (by first | (simp; done) | (simp; omega) | omega) _ | refine Below.setCell ?_ (by first | exact Nat.le_of_not_lt (by assumption) | (simp; done) | (simp; omega) | omega) _ | refine Below.alloc ?_ (by first | (simp; done) | (simp; omega) | omega) _ | refine Below.drew ?_))) _ (.int .i64 y) rfl (blk_cell (c := #[.int .i64 y]) (by repeat (first | with_reducible exact blk_new _ _ _ | ((with_reducible refine blk_at ?_); (simp; done)) | with_reducible apply blk_alloc | with_reducible apply blk_gw)) 0) rfl (by unfold maxLen; omega) (by omega) (by first | (simp; omega) | omega) ?_; intro v' w2 hown2 hb2) | (first | (go_at_call 17; (first | (refine Calls.mono (gw_at (boolIs (risp_b _ _ _ (by assumption) _ (Cs.to (by with_reducible assumption) (by repeat (first | with_reducible exact Below.refl _ _ | with_reducible assumption | refine bgw ?_ (by first | (simp; done) | (simp; omega) | omega) _ | refine Below.setCell ?_ (by first | exact Nat.le_of_not_lt (by assumption) | (simp; done) | (simp; omega) | omega) _ | refine Below.alloc ?_ (by first | (simp; done) | (simp; omega) | omega) _ | refine Below.drew ?_)))) (b := true) (by assumption))) ?_; rintro e w1 ⟨rfl, q, rfl⟩) | (refine Calls.mono (gw_at (boolIs (risp_b _ _ _ (by assumption) _ (Cs.to (by with_reducible assumption) (by repeat (first | with_reducible exact Below.refl _ _ | with_reducible assumption | refine bgw ?_ (by first | (simp; done) | (simp; omega) | omega) _ | refine Below.setCell ?_ (by first | exact Nat.le_of_not_lt (by assumption) | (simp; done) | (simp; omega) | omega) _ | refine Below.alloc ?_ (by first | (simp; done) | (simp; omega) | omega) _ | refine Below.drew ?_)))) (b := false) (by assumption))) ?_; rintro e w1 ⟨rfl, q, rfl⟩) | (refine Calls.mono (gw_at (risp_b _ _ _ (by assumption) _ (Cs.to (by with_reducible assumption) (by repeat (first | with_reducible exact Below.refl _ _ | with_reducible assumption | refine bgw ?_ (by first | (simp; done) | (simp; omega) | omega) _ | refine Below.setCell ?_ (by first | exact Nat.le_of_not_lt (by assumption) | (simp; done) | (simp; omega) | omega) _ | refine Below.alloc ?_ (by first | (simp; done) | (simp; omega) | omega) _ | refine Below.drew ?_))))) ?_; rintro e w1 ⟨rfl, q, rfl⟩)))))
      refine ⟨⟨k + 1, by omega, by go_num, ?_, ?_⟩, by (try go_num); simp [intOf]; (try omega)⟩
      · rw [List.take_add_one, List.getElem?_eq_getElem (by omega), hXk', iv_append]; exact hown2
      · exact Below.trans (by repeat (first | with_reducible exact Below.refl _ _ | with_reducible assumption | refine bgw ?_ (by first | (simp; done) | (simp; omega) | omega) _ | refine Below.setCell ?_ (by first | exact Nat.le_of_not_lt (by assumption) | (simp; done) | (simp; omega) | omega) _ | refine Below.alloc ?_ (by first | (simp; done) | (simp; omega) | omega) _ | refine Below.drew ?_)) hb2
    · obtain rfl : k = ns.length := by omega
      have i1 : ¬ (ns.length : Int) < (ns.length : Int) := by omega
      rw [← hXl, List.take_length] at hown
      obtain ⟨A', cap', rfl, hle, _, hcs⟩ := owns_cs hown
      go_wp2_with (first | (go_at_call 17; (first | (refine Calls.mono (gw_at (boolIs (risp_b _ _ _ (by assumption) _ (Cs.to (by with_reducible assumption) (by repeat (first | with_reducible exact Below.refl _ _ | with_reducible assumption | refine bgw ?_ (by first | (simp; done) | (simp; omega) | omega) _ | refine Below.setCell ?_ (by first | exact Nat.le_of_not_lt (by assumption) | (simp; done) | (simp; omega) | omega) _ | refine Below.alloc ?_ (by first | (simp; done) | (simp; omega) | omega) _ | refine Below.drew ?_)))) (b := true) (by assumption))) ?_; rintro e w1 ⟨rfl, q, rfl⟩) | (refine Calls.mono (gw_at (boolIs (risp_b _ _ _ (by assumption) _ (Cs.to (by with_reducible assumption) (by repeat (first | with_reducible exact Below.refl _ _ | with_reducible assumption | refine bgw ?_ (by first | (simp; done) | (simp; omega) | omega) _ | refine Below.setCell ?_ (by first | exact Nat.le_of_not_lt (by assumption) | (simp; done) | (simp; omega) | omega) _ | refine Below.alloc ?_ (by first | (simp; done) | (simp; omega) | omega) _ | refine Below.drew ?_)))) (b := false) (by assumption))) ?_; rintro e w1 ⟨rfl, q, rfl⟩) | (refine Calls.mono (gw_at (risp_b _ _ _ (by assumption) _ (Cs.to (by with_reducible assumption) (by repeat (first | with_reducible exact Below.refl _ _ | with_reducible assumption | refine bgw ?_ (by first | (simp; done) | (simp; omega) | omega) _ | refine Below.setCell ?_ (by first | exact Nat.le_of_not_lt (by assumption) | (simp; done) | (simp; omega) | omega) _ | refine Below.alloc ?_ (by first | (simp; done) | (simp; omega) | omega) _ | refine Below.drew ?_))))) ?_; rintro e w1 ⟨rfl, q, rfl⟩))))
      go_ret
      exact ⟨⟨A', cap', rfl, by omega, Cs.to hcs (by repeat (first | with_reducible exact Below.refl _ _ | with_reducible assumption | refine bgw ?_ (by first | (simp; done) | (simp; omega) | omega) _ | refine Below.setCell ?_ (by first | exact Nat.le_of_not_lt (by assumption) | (simp; done) | (simp; omega) | omega) _ | refine Below.alloc ?_ (by first | (simp; done) | (simp; omega) | omega) _ | refine Below.drew ?_))⟩, (by repeat (first | with_reducible exact Below.refl _ _ | with_reducible assumption | refine bgw ?_ (by first | (simp; done) | (simp; omega) | omega) _ | refine Below.setCell ?_ (by first | exact Nat.le_of_not_lt (by assumption) | (simp; done) | (simp; omega) | omega) _ | refine Below.alloc ?_ (by first | (simp; done) | (simp; omega) | omega) _ | refine Below.drew ?_))⟩

theorem rcomp_b (A B : Option Addr) (ca cb : Nat) (ns ms : List Int) (hn : ns.length ≤ 65536) (hm : ms.length ≤ 65536) (w : World) (ha : Ints w A ns) (hb : Ints w B ms) : Calls Try.prog 21 #[.slice A ns.length ca, .slice B ms.length cb] w fun e w' => (∃ A' cap', e = .returned (.slice A' (comp ns ms).length cap') ∧ (comp ns ms).length ≤ cap' ∧ Ints w' A' (comp ns ms)) ∧ Below w.heap.size w w' := by
  cases hP : isPerm ns
  focus
    rw [show comp ns ms = [] from by simp [comp, hP]]
    go_enter Try.func21, Try.ntmps21
    go_wp2_with (first | (go_at_call 17; (first | (refine Calls.mono (gw_at (boolIs (risp_b _ _ _ (by assumption) _ (Cs.to (by with_reducible assumption) (by repeat (first | with_reducible exact Below.refl _ _ | with_reducible assumption | refine bgw ?_ (by first | (simp; done) | (simp; omega) | omega) _ | refine Below.setCell ?_ (by first | exact Nat.le_of_not_lt (by assumption) | (simp; done) | (simp; omega) | omega) _ | refine Below.alloc ?_ (by first | (simp; done) | (simp; omega) | omega) _ | refine Below.drew ?_)))) (b := true) (by assumption))) ?_; rintro e w1 ⟨rfl, q, rfl⟩) | (refine Calls.mono (gw_at (boolIs (risp_b _ _ _ (by assumption) _ (Cs.to (by with_reducible assumption) (by repeat (first | with_reducible exact Below.refl _ _ | with_reducible assumption | refine bgw ?_ (by first | (simp; done) | (simp; omega) | omega) _ | refine Below.setCell ?_ (by first | exact Nat.le_of_not_lt (by assumption) | (simp; done) | (simp; omega) | omega) _ | refine Below.alloc ?_ (by first | (simp; done) | (simp; omega) | omega) _ | refine Below.drew ?_)))) (b := false) (by assumption))) ?_; rintro e w1 ⟨rfl, q, rfl⟩) | (refine Calls.mono (gw_at (risp_b _ _ _ (by assumption) _ (Cs.to (by with_reducible assumption) (by repeat (first | with_reducible exact Below.refl _ _ | with_reducible assumption | refine bgw ?_ (by first | (simp; done) | (simp; omega) | omega) _ | refine Below.setCell ?_ (by first | exact Nat.le_of_not_lt (by assumption) | (simp; done) | (simp; omega) | omega) _ | refine Below.alloc ?_ (by first | (simp; done) | (simp; omega) | omega) _ | refine Below.drew ?_))))) ?_; rintro e w1 ⟨rfl, q, rfl⟩))) | (go_at_call 23; refine Calls.mono (gw_ex (rapp_b _ _ _ _ _ _ (by first | assumption | omega) (by first | assumption | omega) _ (Cs.to (by with_reducible assumption) (by repeat (first | with_reducible exact Below.refl _ _ | with_reducible assumption | refine bgw ?_ (by first | (simp; done) | (simp; omega) | omega) _ | refine Below.setCell ?_ (by first | exact Nat.le_of_not_lt (by assumption) | (simp; done) | (simp; omega) | omega) _ | refine Below.alloc ?_ (by first | (simp; done) | (simp; omega) | omega) _ | refine Below.drew ?_))) (Cs.to (by with_reducible assumption) (by repeat (first | with_reducible exact Below.refl _ _ | with_reducible assumption | refine bgw ?_ (by first | (simp; done) | (simp; omega) | omega) _ | refine Below.setCell ?_ (by first | exact Nat.le_of_not_lt (by assumption) | (simp; done) | (simp; omega) | omega) _ | refine Below.alloc ?_ (by first | (simp; done) | (simp; omega) | omega) _ | refine Below.drew ?_))))) ?_; rintro e w1 ⟨⟨A', cap', rfl, hle, hcs⟩, q, rfl⟩))
    go_ret
    exact ⟨⟨none, 0, rfl, Nat.le_refl _, Cs.nil _ _⟩, (by repeat (first | with_reducible exact Below.refl _ _ | with_reducible assumption | refine bgw ?_ (by first | (simp; done) | (simp; omega) | omega) _ | refine Below.setCell ?_ (by first | exact Nat.le_of_not_lt (by assumption) | (simp; done) | (simp; omega) | omega) _ | refine Below.alloc ?_ (by first | (simp; done) | (simp; omega) | omega) _ | refine Below.drew ?_))⟩
  cases hQ : isPerm ms
  focus
    rw [show comp ns ms = [] from by simp [comp, app, hP, hQ]]
    go_enter Try.func21, Try.ntmps21
    go_wp2_with (first | (go_at_call 17; (first | (refine Calls.mono (gw_at (boolIs (risp_b _ _ _ (by assumption) _ (Cs.to (by with_reducible assumption) (by repeat (first | with_reducible exact Below.refl _ _ | with_reducible assumption | refine bgw ?_ (by first | (simp; done) | (simp; omega) | omega) _ | refine Below.setCell ?_ (by first | exact Nat.le_of_not_lt (by assumption) | (simp; done) | (simp; omega) | omega) _ | refine Below.alloc ?_ (by first | (simp; done) | (simp; omega) | omega) _ | refine Below.drew ?_)))) (b := true) (by assumption))) ?_; rintro e w1 ⟨rfl, q, rfl⟩) | (refine Calls.mono (gw_at (boolIs (risp_b _ _ _ (by assumption) _ (Cs.to (by with_reducible assumption) (by repeat (first | with_reducible exact Below.refl _ _ | with_reducible assumption | refine bgw ?_ (by first | (simp; done) | (simp; omega) | omega) _ | refine Below.setCell ?_ (by first | exact Nat.le_of_not_lt (by assumption) | (simp; done) | (simp; omega) | omega) _ | refine Below.alloc ?_ (by first | (simp; done) | (simp; omega) | omega) _ | refine Below.drew ?_)))) (b := false) (by assumption))) ?_; rintro e w1 ⟨rfl, q, rfl⟩) | (refine Calls.mono (gw_at (risp_b _ _ _ (by assumption) _ (Cs.to (by with_reducible assumption) (by repeat (first | with_reducible exact Below.refl _ _ | with_reducible assumption | refine bgw ?_ (by first | (simp; done) | (simp; omega) | omega) _ | refine Below.setCell ?_ (by first | exact Nat.le_of_not_lt (by assumption) | (simp; done) | (simp; omega) | omega) _ | refine Below.alloc ?_ (by first | (simp; done) | (simp; omega) | omega) _ | refine Below.drew ?_))))) ?_; rintro e w1 ⟨rfl, q, rfl⟩))) | (go_at_call 23; refine Calls.mono (gw_ex (rapp_b _ _ _ _ _ _ (by first | assumption | omega) (by first | assumption | omega) _ (Cs.to (by with_reducible assumption) (by repeat (first | with_reducible exact Below.refl _ _ | with_reducible assumption | refine bgw ?_ (by first | (simp; done) | (simp; omega) | omega) _ | refine Below.setCell ?_ (by first | exact Nat.le_of_not_lt (by assumption) | (simp; done) | (simp; omega) | omega) _ | refine Below.alloc ?_ (by first | (simp; done) | (simp; omega) | omega) _ | refine Below.drew ?_))) (Cs.to (by with_reducible assumption) (by repeat (first | with_reducible exact Below.refl _ _ | with_reducible assumption | refine bgw ?_ (by first | (simp; done) | (simp; omega) | omega) _ | refine Below.setCell ?_ (by first | exact Nat.le_of_not_lt (by assumption) | (simp; done) | (simp; omega) | omega) _ | refine Below.alloc ?_ (by first | (simp; done) | (simp; omega) | omega) _ | refine Below.drew ?_))))) ?_; rintro e w1 ⟨⟨A', cap', rfl, hle, hcs⟩, q, rfl⟩))
    go_ret
    exact ⟨⟨none, 0, rfl, Nat.le_refl _, Cs.nil _ _⟩, (by repeat (first | with_reducible exact Below.refl _ _ | with_reducible assumption | refine bgw ?_ (by first | (simp; done) | (simp; omega) | omega) _ | refine Below.setCell ?_ (by first | exact Nat.le_of_not_lt (by assumption) | (simp; done) | (simp; omega) | omega) _ | refine Below.alloc ?_ (by first | (simp; done) | (simp; omega) | omega) _ | refine Below.drew ?_))⟩
  by_cases hlen : ns.length = ms.length
  rotate_left
  focus
    rw [show comp ns ms = [] from by simp [comp, app, hP, hlen]]
    have hlen' : ¬ (ns.length : Int) = (ms.length : Int) := by omega
    go_enter Try.func21, Try.ntmps21
    go_wp2_with (first | (go_at_call 17; (first | (refine Calls.mono (gw_at (boolIs (risp_b _ _ _ (by assumption) _ (Cs.to (by with_reducible assumption) (by repeat (first | with_reducible exact Below.refl _ _ | with_reducible assumption | refine bgw ?_ (by first | (simp; done) | (simp; omega) | omega) _ | refine Below.setCell ?_ (by first | exact Nat.le_of_not_lt (by assumption) | (simp; done) | (simp; omega) | omega) _ | refine Below.alloc ?_ (by first | (simp; done) | (simp; omega) | omega) _ | refine Below.drew ?_)))) (b := true) (by assumption))) ?_; rintro e w1 ⟨rfl, q, rfl⟩) | (refine Calls.mono (gw_at (boolIs (risp_b _ _ _ (by assumption) _ (Cs.to (by with_reducible assumption) (by repeat (first | with_reducible exact Below.refl _ _ | with_reducible assumption | refine bgw ?_ (by first | (simp; done) | (simp; omega) | omega) _ | refine Below.setCell ?_ (by first | exact Nat.le_of_not_lt (by assumption) | (simp; done) | (simp; omega) | omega) _ | refine Below.alloc ?_ (by first | (simp; done) | (simp; omega) | omega) _ | refine Below.drew ?_)))) (b := false) (by assumption))) ?_; rintro e w1 ⟨rfl, q, rfl⟩) | (refine Calls.mono (gw_at (risp_b _ _ _ (by assumption) _ (Cs.to (by with_reducible assumption) (by repeat (first | with_reducible exact Below.refl _ _ | with_reducible assumption | refine bgw ?_ (by first | (simp; done) | (simp; omega) | omega) _ | refine Below.setCell ?_ (by first | exact Nat.le_of_not_lt (by assumption) | (simp; done) | (simp; omega) | omega) _ | refine Below.alloc ?_ (by first | (simp; done) | (simp; omega) | omega) _ | refine Below.drew ?_))))) ?_; rintro e w1 ⟨rfl, q, rfl⟩))) | (go_at_call 23; refine Calls.mono (gw_ex (rapp_b _ _ _ _ _ _ (by first | assumption | omega) (by first | assumption | omega) _ (Cs.to (by with_reducible assumption) (by repeat (first | with_reducible exact Below.refl _ _ | with_reducible assumption | refine bgw ?_ (by first | (simp; done) | (simp; omega) | omega) _ | refine Below.setCell ?_ (by first | exact Nat.le_of_not_lt (by assumption) | (simp; done) | (simp; omega) | omega) _ | refine Below.alloc ?_ (by first | (simp; done) | (simp; omega) | omega) _ | refine Below.drew ?_))) (Cs.to (by with_reducible assumption) (by repeat (first | with_reducible exact Below.refl _ _ | with_reducible assumption | refine bgw ?_ (by first | (simp; done) | (simp; omega) | omega) _ | refine Below.setCell ?_ (by first | exact Nat.le_of_not_lt (by assumption) | (simp; done) | (simp; omega) | omega) _ | refine Below.alloc ?_ (by first | (simp; done) | (simp; omega) | omega) _ | refine Below.drew ?_))))) ?_; rintro e w1 ⟨⟨A', cap', rfl, hle, hcs⟩, q, rfl⟩))
    go_ret
    exact ⟨⟨none, 0, rfl, Nat.le_refl _, Cs.nil _ _⟩, (by repeat (first | with_reducible exact Below.refl _ _ | with_reducible assumption | refine bgw ?_ (by first | (simp; done) | (simp; omega) | omega) _ | refine Below.setCell ?_ (by first | exact Nat.le_of_not_lt (by assumption) | (simp; done) | (simp; omega) | omega) _ | refine Below.alloc ?_ (by first | (simp; done) | (simp; omega) | omega) _ | refine Below.drew ?_))⟩
  rw [show comp ns ms = app 0 ns ms from by simp [comp, hP]]
  have hlen' : (ns.length : Int) = (ms.length : Int) := by omega
  clear hlen
  go_enter Try.func21, Try.ntmps21
  go_wp2_with (first | (go_at_call 23; refine Calls.mono (gw_ex (rapp_b _ _ _ _ ns ms hn hm _ (Cs.to ha (by repeat (first | with_reducible exact Below.refl _ _ | with_reducible assumption | refine bgw ?_ (by first | (simp; done) | (simp; omega) | omega) _ | refine Below.setCell ?_ (by first | exact Nat.le_of_not_lt (by assumption) | (simp; done) | (simp; omega) | omega) _ | refine Below.alloc ?_ (by first | (simp; done) | (simp; omega) | omega) _ | refine Below.drew ?_))) (Cs.to hb (by repeat (first | with_reducible exact Below.refl _ _ | with_reducible assumption | refine bgw ?_ (by first | (simp; done) | (simp; omega) | omega) _ | refine Below.setCell ?_ (by first | exact Nat.le_of_not_lt (by assumption) | (simp; done) | (simp; omega) | omega) _ | refine Below.alloc ?_ (by first | (simp; done) | (simp; omega) | omega) _ | refine Below.drew ?_))))) ?_; rintro e w1 ⟨⟨A', cap', rfl, hle, hcs⟩, q, rfl⟩) | (first | (go_at_call 17; (first | (refine Calls.mono (gw_at (boolIs (risp_b _ _ _ (by assumption) _ (Cs.to (by with_reducible assumption) (by repeat (first | with_reducible exact Below.refl _ _ | with_reducible assumption | refine bgw ?_ (by first | (simp; done) | (simp; omega) | omega) _ | refine Below.setCell ?_ (by first | exact Nat.le_of_not_lt (by assumption) | (simp; done) | (simp; omega) | omega) _ | refine Below.alloc ?_ (by first | (simp; done) | (simp; omega) | omega) _ | refine Below.drew ?_)))) (b := true) (by assumption))) ?_; rintro e w1 ⟨rfl, q, rfl⟩) | (refine Calls.mono (gw_at (boolIs (risp_b _ _ _ (by assumption) _ (Cs.to (by with_reducible assumption) (by repeat (first | with_reducible exact Below.refl _ _ | with_reducible assumption | refine bgw ?_ (by first | (simp; done) | (simp; omega) | omega) _ | refine Below.setCell ?_ (by first | exact Nat.le_of_not_lt (by assumption) | (simp; done) | (simp; omega) | omega) _ | refine Below.alloc ?_ (by first | (simp; done) | (simp; omega) | omega) _ | refine Below.drew ?_)))) (b := false) (by assumption))) ?_; rintro e w1 ⟨rfl, q, rfl⟩) | (refine Calls.mono (gw_at (risp_b _ _ _ (by assumption) _ (Cs.to (by with_reducible assumption) (by repeat (first | with_reducible exact Below.refl _ _ | with_reducible assumption | refine bgw ?_ (by first | (simp; done) | (simp; omega) | omega) _ | refine Below.setCell ?_ (by first | exact Nat.le_of_not_lt (by assumption) | (simp; done) | (simp; omega) | omega) _ | refine Below.alloc ?_ (by first | (simp; done) | (simp; omega) | omega) _ | refine Below.drew ?_))))) ?_; rintro e w1 ⟨rfl, q, rfl⟩))) | (go_at_call 23; refine Calls.mono (gw_ex (rapp_b _ _ _ _ _ _ (by first | assumption | omega) (by first | assumption | omega) _ (Cs.to (by with_reducible assumption) (by repeat (first | with_reducible exact Below.refl _ _ | with_reducible assumption | refine bgw ?_ (by first | (simp; done) | (simp; omega) | omega) _ | refine Below.setCell ?_ (by first | exact Nat.le_of_not_lt (by assumption) | (simp; done) | (simp; omega) | omega) _ | refine Below.alloc ?_ (by first | (simp; done) | (simp; omega) | omega) _ | refine Below.drew ?_))) (Cs.to (by with_reducible assumption) (by repeat (first | with_reducible exact Below.refl _ _ | with_reducible assumption | refine bgw ?_ (by first | (simp; done) | (simp; omega) | omega) _ | refine Below.setCell ?_ (by first | exact Nat.le_of_not_lt (by assumption) | (simp; done) | (simp; omega) | omega) _ | refine Below.alloc ?_ (by first | (simp; done) | (simp; omega) | omega) _ | refine Below.drew ?_))))) ?_; rintro e w1 ⟨⟨A', cap', rfl, hle, hcs⟩, q, rfl⟩)))
  go_ret
  exact ⟨⟨A', cap', rfl, hle, Cs.to hcs (by repeat (first | with_reducible exact Below.refl _ _ | with_reducible assumption | refine bgw ?_ (by first | (simp; done) | (simp; omega) | omega) _ | refine Below.setCell ?_ (by first | exact Nat.le_of_not_lt (by assumption) | (simp; done) | (simp; omega) | omega) _ | refine Below.alloc ?_ (by first | (simp; done) | (simp; omega) | omega) _ | refine Below.drew ?_))⟩, (by repeat (first | with_reducible exact Below.refl _ _ | with_reducible assumption | refine bgw ?_ (by first | (simp; done) | (simp; omega) | omega) _ | refine Below.setCell ?_ (by first | exact Nat.le_of_not_lt (by assumption) | (simp; done) | (simp; omega) | omega) _ | refine Below.alloc ?_ (by first | (simp; done) | (simp; omega) | omega) _ | refine Below.drew ?_))⟩

theorem rperm_b (n s : Int) (w : World) : Calls Try.prog 10 #[.int .i64 n, .int .u64 s] w fun e w' => (∃ A' cap', e = .returned (.tuple #[.slice A' (perm n s).1.length cap', .int .u64 (perm n s).2]) ∧ (perm n s).1.length ≤ cap' ∧ Ints w' A' (perm n s).1) ∧ Below w.heap.size w w' := by
  obtain ⟨i0, hi, hz0, hz1, hz2⟩ := info_parts info_int
  by_cases hn : n < 0 ∨ 4096 < n
  focus
    rw [show perm n s = ([], s) from if_pos hn]
    rcases hn with hn | hn
    all_goals
      go_enter Try.func10, Try.ntmps10
      go_wp2_with (first | (go_at_call 16; refine Calls.mono (gw_at (rintn_b _ _ (by omega) _)) ?_; rintro e w1 ⟨rfl, q, rfl⟩))
      exact bodyPost_ret (v := .tuple #[.slice none 0 0, .int .u64 s]) (by simp [results, Try.results10, go_sem]) rfl ⟨⟨none, 0, rfl, Nat.le_refl _, Cs.nil _ _⟩, (by repeat (first | with_reducible exact Below.refl _ _ | with_reducible assumption | refine bgw ?_ (by first | (simp; done) | (simp; omega) | omega) _ | refine Below.setCell ?_ (by first | exact Nat.le_of_not_lt (by assumption) | (simp; done) | (simp; omega) | omega) _ | refine Below.alloc ?_ (by first | (simp; done) | (simp; omega) | omega) _ | refine Below.drew ?_))⟩
  obtain ⟨m, rfl⟩ : ∃ m : Nat, n = m := ⟨n.toNat, by omega⟩
  have hm : m ≤ 4096 := by omega
  obtain ⟨l2, s2, hX⟩ : ∃ l2 s2, shuf (m - 1) (rng m) s = (l2, s2) := ⟨_, _, rfl⟩
  rw [show perm m s = (l2, s2) from by rw [← hX]; simp [perm, show ¬ ((m : Int) < 0 ∨ 4096 < (m : Int)) from by omega]]
  have hl2 : l2.length = m := by have := shuf_length (m - 1) (rng m) s; rw [hX] at this; simpa using this
  have hr : ∀ k (h : k < m), (rng m)[k]'(by simpa using h) = (k : Int) := fun k h => rng_get m k (by simpa using h)
  go_enter Try.func10, Try.ntmps10
  go_wp2_with (first | (go_at_call 16; refine Calls.mono (gw_at (rintn_b _ _ (by omega) _)) ?_; rintro e w1 ⟨rfl, q, rfl⟩))
  go_loopw [6, 7] (fun v i wr => ∃ k : Nat, k ≤ m ∧ i = .int .i64 k ∧ wr.ownsRow w.heap.size 3 1 v k (iv ((rng m).take k)) ∧ Below w.heap.size w wr)
    (fun _ i _ => (m - intOf i).toNat)
  case atStart => exact ⟨0, by omega, rfl, World.ownsRow_nil _ _ _ _, (by repeat (first | with_reducible exact Below.refl _ _ | with_reducible assumption | refine bgw ?_ (by first | (simp; done) | (simp; omega) | omega) _ | refine Below.setCell ?_ (by first | exact Nat.le_of_not_lt (by assumption) | (simp; done) | (simp; omega) | omega) _ | refine Below.alloc ?_ (by first | (simp; done) | (simp; omega) | omega) _ | refine Below.drew ?_))⟩
  case round =>
    obtain ⟨k, hk, rfl, hown, hbw⟩ := hrel
    have hsz := hbw.size
    by_cases hlt : k < m
    · have j0 : (0 : Int) ≤ (k : Int) := by omega
      have i1 : (k : Int) < (m : Int) := by omega
      go_wp2_with (first | (at_builtin; refine wpList_app1 rfl _ _ 24 rfl w.heap.size 3 i0 (.int .i64 0) 8 Try.underlying24 hi hz0 hz1 hz2 rfl _ _ _ rfl (owns_below hown (by repeat (first | with_reducible exact Below.refl _ _ | with_reducible assumption | refine bgw ?_ (by first | (simp; done) | (simp; omega) | omega) _ | refine Below.setCell ?_ (by first | exact Nat.le_of_not_lt (by assumption) | (simp; done) | (simp; omega) | omega) _ | refine Below.alloc ?_ (by first | (simp; done) | (simp; omega) | omega) _ | refine Below.drew ?_))) _ (.int .i64 k) rfl (blk_cell (c := #[.int .i64 k]) (by repeat (first | with_reducible exact blk_new _ _ _ | ((with_reducible refine blk_at ?_); (simp; done)) | with_reducible apply blk_alloc | with_reducible apply blk_gw)) 0) rfl (by unfold maxLen; omega) (by omega) (by first | (simp; omega) | omega) ?_; intro v' w2 hown2 hb2) | (first | (go_at_call 16; refine Calls.mono (gw_at (rintn_b _ _ (by omega) _)) ?_; rintro e w1 ⟨rfl, q, rfl⟩)))
      refine ⟨⟨k + 1, by omega, by go_num, ?_, ?_⟩, by (try go_num); simp [intOf]; (try omega)⟩
      · rw [List.take_add_one, List.getElem?_eq_getElem (by simpa using hlt), hr k hlt, iv_append]; exact hown2
      · exact Below.trans (by repeat (first | with_reducible exact Below.refl _ _ | with_reducible assumption | refine bgw ?_ (by first | (simp; done) | (simp; omega) | omega) _ | refine Below.setCell ?_ (by first | exact Nat.le_of_not_lt (by assumption) | (simp; done) | (simp; omega) | omega) _ | refine Below.alloc ?_ (by first | (simp; done) | (simp; omega) | omega) _ | refine Below.drew ?_)) hb2
    · obtain rfl : k = m := by omega
      have i1 : ¬ (k : Int) < (k : Int) := by omega
      rw [show (rng k).take k = rng k from List.take_of_length_le (by simp)] at hown
      obtain ⟨hlk, ⟨rfl, rfl⟩ | ⟨g, cap, rest, rfl, hgB, hcap, kg⟩⟩ := owns_open hown
      focus
        have e : l2 = [] ∧ s2 = s := by simp [shuf, rng] at hX; exact ⟨hX.1, hX.2.symm⟩
        obtain ⟨rfl, rfl⟩ := e
        go_wp2_with (first | (go_at_call 16; refine Calls.mono (gw_at (rintn_b _ _ (by omega) _)) ?_; rintro e w1 ⟨rfl, q, rfl⟩))
        go_loopw [1, 8] (fun st i w2 => i = .int .i64 (-1) ∧ st = .int .u64 s2 ∧ Below w.heap.size w w2) (fun _ _ _ => 0)
        case atStart => exact ⟨rfl, rfl, (by repeat (first | with_reducible exact Below.refl _ _ | with_reducible assumption | refine bgw ?_ (by first | (simp; done) | (simp; omega) | omega) _ | refine Below.setCell ?_ (by first | exact Nat.le_of_not_lt (by assumption) | (simp; done) | (simp; omega) | omega) _ | refine Below.alloc ?_ (by first | (simp; done) | (simp; omega) | omega) _ | refine Below.drew ?_))⟩
        case round =>
          obtain ⟨rfl, rfl, hb2⟩ := hrel
          go_wp2_with (first | (go_at_call 16; refine Calls.mono (gw_at (rintn_b _ _ (by omega) _)) ?_; rintro e w1 ⟨rfl, q, rfl⟩))
          exact bodyPost_ret (v := .tuple #[.slice none 0 0, .int .u64 s2]) (by simp [results, Try.results10, go_sem]) rfl ⟨⟨none, 0, rfl, Nat.le_refl _, Cs.nil _ _⟩, (by repeat (first | with_reducible exact Below.refl _ _ | with_reducible assumption | refine bgw ?_ (by first | (simp; done) | (simp; omega) | omega) _ | refine Below.setCell ?_ (by first | exact Nat.le_of_not_lt (by assumption) | (simp; done) | (simp; omega) | omega) _ | refine Below.alloc ?_ (by first | (simp; done) | (simp; omega) | omega) _ | refine Below.drew ?_))⟩
      by_cases hk0 : k = 0
      focus
        subst hk0
        have e : l2 = [] ∧ s2 = s := by simp [shuf, rng] at hX; exact ⟨hX.1, hX.2.symm⟩
        obtain ⟨rfl, rfl⟩ := e
        go_wp2_with (first | (go_at_call 16; refine Calls.mono (gw_at (rintn_b _ _ (by omega) _)) ?_; rintro e w1 ⟨rfl, q, rfl⟩))
        go_loopw [1, 8] (fun st i w2 => i = .int .i64 (-1) ∧ st = .int .u64 s2 ∧ Below w.heap.size w w2) (fun _ _ _ => 0)
        case atStart => exact ⟨rfl, rfl, (by repeat (first | with_reducible exact Below.refl _ _ | with_reducible assumption | refine bgw ?_ (by first | (simp; done) | (simp; omega) | omega) _ | refine Below.setCell ?_ (by first | exact Nat.le_of_not_lt (by assumption) | (simp; done) | (simp; omega) | omega) _ | refine Below.alloc ?_ (by first | (simp; done) | (simp; omega) | omega) _ | refine Below.drew ?_))⟩
        case round =>
          obtain ⟨rfl, rfl, hb2⟩ := hrel
          go_wp2_with (first | (go_at_call 16; refine Calls.mono (gw_at (rintn_b _ _ (by omega) _)) ?_; rintro e w1 ⟨rfl, q, rfl⟩))
          exact bodyPost_ret (v := .tuple #[.slice (some ⟨g, 0, none⟩) 0 cap, .int .u64 s2]) (by simp [results, Try.results10, go_sem]) rfl ⟨⟨some ⟨g, 0, none⟩, cap, rfl, by simp, Cs.nil _ _⟩, (by repeat (first | with_reducible exact Below.refl _ _ | with_reducible assumption | refine bgw ?_ (by first | (simp; done) | (simp; omega) | omega) _ | refine Below.setCell ?_ (by first | exact Nat.le_of_not_lt (by assumption) | (simp; done) | (simp; omega) | omega) _ | refine Below.alloc ?_ (by first | (simp; done) | (simp; omega) | omega) _ | refine Below.drew ?_))⟩
      go_wp2_with (first | (go_at_call 16; refine Calls.mono (gw_at (rintn_b _ _ (by omega) _)) ?_; rintro e w1 ⟨rfl, q, rfl⟩))
      go_loopw [1, 8] (fun st i w2 => ∃ (j : Nat) (l : List Int) (s' : Int), j < k ∧ i = .int .i64 j ∧ st = .int .u64 s' ∧ l.length = k ∧ shuf j l s' = (l2, s2) ∧ blk w2 g (iv l ++ rest).toArray 3 ∧ Below w.heap.size w w2)
        (fun _ i _ => (intOf i).toNat)
      case atStart => exact ⟨k - 1, rng k, s, by omega, by go_num, rfl, by simp, hX, kg, (by repeat (first | with_reducible exact Below.refl _ _ | with_reducible assumption | refine bgw ?_ (by first | (simp; done) | (simp; omega) | omega) _ | refine Below.setCell ?_ (by first | exact Nat.le_of_not_lt (by assumption) | (simp; done) | (simp; omega) | omega) _ | refine Below.alloc ?_ (by first | (simp; done) | (simp; omega) | omega) _ | refine Below.drew ?_))⟩
      case round =>
        obtain ⟨j, l, s', hj, rfl, rfl, hll, hsh, kg2, hb2⟩ := hrel
        have hsz2 := hb2.size
        by_cases hj0 : j = 0
        focus
          subst hj0
          have e : l = l2 ∧ s' = s2 := by simpa [shuf] using hsh
          obtain ⟨rfl, rfl⟩ := e
          go_wp2_with (first | (go_at_call 16; refine Calls.mono (gw_at (rintn_b _ _ (by omega) _)) ?_; rintro e w1 ⟨rfl, q, rfl⟩))
          exact bodyPost_ret (v := .tuple #[.slice (some ⟨g, 0, none⟩) k cap, .int .u64 s']) (by simp [results, Try.results10, go_sem]) rfl ⟨⟨some ⟨g, 0, none⟩, cap, by rw [hll], by omega, Cs.to (row_cs kg2) (by repeat (first | with_reducible exact Below.refl _ _ | with_reducible assumption | refine bgw ?_ (by first | (simp; done) | (simp; omega) | omega) _ | refine Below.setCell ?_ (by first | exact Nat.le_of_not_lt (by assumption) | (simp; done) | (simp; omega) | omega) _ | refine Below.alloc ?_ (by first | (simp; done) | (simp; omega) | omega) _ | refine Below.drew ?_))⟩, (by repeat (first | with_reducible exact Below.refl _ _ | with_reducible assumption | refine bgw ?_ (by first | (simp; done) | (simp; omega) | omega) _ | refine Below.setCell ?_ (by first | exact Nat.le_of_not_lt (by assumption) | (simp; done) | (simp; omega) | omega) _ | refine Below.alloc ?_ (by first | (simp; done) | (simp; omega) | omega) _ | refine Below.drew ?_))⟩
        obtain ⟨i, rfl⟩ : ∃ i, j = i + 1 := ⟨j - 1, by omega⟩
        obtain ⟨x0, x1⟩ := ik_in (n := (i : Int) + 1 + 1) (s := s') (by omega)
        obtain ⟨x, hx⟩ : ∃ x, ik ((i : Int) + 1 + 1) s' = x := ⟨_, rfl⟩
        obtain ⟨y, hy⟩ : ∃ y, is' ((i : Int) + 1 + 1) s' = y := ⟨_, rfl⟩
        rw [shuf, hx, hy] at hsh
        rw [hx] at x0 x1
        have hil : i + 1 < l.length := by omega
        have hxl : x.toNat < l.length := by omega
        have x2 : x < (cap : Int) := by omega
        have x3 : x < (k : Int) := by omega
        have i2 : (i : Int) + 1 < (k : Int) := by omega
        have c1 := row_cell kg2 hil
        have c2 := row_cell kg2 hxl
        have f1 := blk_free kg2 (i + 1)
        have f2 := blk_free kg2 x.toNat
        have og := blk_older kg2
        obtain ⟨u, hu⟩ : ∃ u, l[i + 1] = u := ⟨_, rfl⟩
        obtain ⟨v, hv⟩ : ∃ v, l[x.toNat] = v := ⟨_, rfl⟩
        have hsw : swp l (i + 1) x.toNat = (l.set (i + 1) v).set x.toNat u := by
          unfold swp; rw [List.getD_eq_getElem?_getD, List.getD_eq_getElem?_getD, List.getElem?_eq_getElem hxl, List.getElem?_eq_getElem hil, hu, hv]; rfl
        rw [hsw] at hsh
        rw [hu] at c1
        rw [hv] at c2
        have kg3 : blk (wr.setCell ⟨g, i + 1, none⟩ (.int .i64 v)) g (iv (l.set (i + 1) v) ++ rest).toArray 3 := by rw [← row_set _ rest hil]; exact blk_set kg2
        have c3 := row_cell kg3 (i := x.toNat) (by simpa using hxl)
        have f3 := blk_free kg3 x.toNat
        go_wp2_with (first | (go_at_call 16; refine Calls.mono (gw_at (rintn_b _ _ (by omega) _)) ?_; rintro e w1 ⟨rfl, q, rfl⟩))
        refine ⟨⟨i, _, y, by omega, by go_num, by go_num, ?_, hsh, ?_, (by repeat (first | with_reducible exact Below.refl _ _ | with_reducible assumption | refine bgw ?_ (by first | (simp; done) | (simp; omega) | omega) _ | refine Below.setCell ?_ (by first | exact Nat.le_of_not_lt (by assumption) | (simp; done) | (simp; omega) | omega) _ | refine Below.alloc ?_ (by first | (simp; done) | (simp; omega) | omega) _ | refine Below.drew ?_))⟩, by (try go_num); simp [intOf]; (try omega)⟩
        · simpa using hll
        · rw [← row_set _ rest (by simpa using hxl), ← row_set _ rest hil]; exact (by apply blk_of; (repeat (first | with_reducible exact kg2 | with_reducible apply blk_drew | with_reducible apply blk_gw | with_reducible apply blk_alloc | with_reducible apply blk_set | ((with_reducible apply blk_other); focus omega))); (first | rfl | simp))

end Go.Proofs.Ytdpkhjnjjegobaa
