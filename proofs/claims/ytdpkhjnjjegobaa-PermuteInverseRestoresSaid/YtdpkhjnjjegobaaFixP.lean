/- Contracts of package permute and of its reference. -/
import Derived.Test.YtdpkhjnjjegobaaFixPR
import Derived.RegionTactic
import Derived.BigRegion
set_option linter.unusedVariables false
namespace Go.Proofs.Ytdpkhjnjjegobaa
open Go.RowKit Pm

theorem next_b (s : Int) (w : World) : Calls Try.prog 13 #[.int .u64 s] w fun e w' => e = .returned (.tuple #[.int .u64 (nv s), .int .u64 (nt s)]) ∧ Below w.heap.size w w' := by
  go_enter Try.func13, Try.ntmps13
  go_wp2_with fail
  exact bodyPost_ret (v := .tuple #[.int .u64 (nv s), .int .u64 (nt s)]) (by simp [results, Try.results13, go_sem, nv, nu, nt, xr]) rfl ⟨rfl, (by repeat (first | with_reducible exact Below.refl _ _ | with_reducible assumption | refine bgw ?_ (by first | (simp; done) | (simp; omega) | omega) _ | refine Below.setCell ?_ (by first | exact Nat.le_of_not_lt (by assumption) | (simp; done) | (simp; omega) | omega) _ | refine Below.alloc ?_ (by first | (simp; done) | (simp; omega) | omega) _ | refine Below.drew ?_))⟩

theorem intn_b (n s : Int) (hn : n ≤ 9223372036854775807) (w : World) : Calls Try.prog 15 #[.int .i64 n, .int .u64 s] w fun e w' => e = .returned (.tuple #[.int .i64 (ik n s), .int .u64 (is' n s)]) ∧ Below w.heap.size w w' := by
  by_cases h : n < 1
  focus
    rw [show ik n s = 0 from if_pos h, show is' n s = s from if_pos h]
    go_enter Try.func15, Try.ntmps15
    go_wp2_with (first | (go_at_call 13; refine Calls.mono (gw_at (next_b _ _)) ?_; rintro e w1 ⟨rfl, q, rfl⟩))
    exact bodyPost_ret (v := .tuple #[.int .i64 0, .int .u64 s]) (by simp [results, Try.results15, go_sem]) rfl ⟨rfl, (by repeat (first | with_reducible exact Below.refl _ _ | with_reducible assumption | refine bgw ?_ (by first | (simp; done) | (simp; omega) | omega) _ | refine Below.setCell ?_ (by first | exact Nat.le_of_not_lt (by assumption) | (simp; done) | (simp; omega) | omega) _ | refine Below.alloc ?_ (by first | (simp; done) | (simp; omega) | omega) _ | refine Below.drew ?_))⟩
  rw [show ik n s = nv s % n from if_neg h, show is' n s = nt s from if_neg h]
  have h1 : ¬ n = 0 := by omega
  obtain ⟨g1, g2⟩ := nv_in s
  have e : wrap64 (nv s % n) = nv s % n := by
    have k1 := Int.emod_nonneg (nv s) (b := n) (by omega)
    have k2 := Int.emod_lt_of_pos (nv s) (b := n) (by omega)
    unfold wrap64; omega
  go_enter Try.func15, Try.ntmps15
  go_wp2_with (first | (go_at_call 13; refine Calls.mono (gw_at (next_b _ _)) ?_; rintro e w1 ⟨rfl, q, rfl⟩))
  exact bodyPost_ret (v := .tuple #[.int .i64 (nv s % n), .int .u64 (nt s)]) (by simp [results, Try.results15, go_sem, e]) rfl ⟨rfl, (by repeat (first | with_reducible exact Below.refl _ _ | with_reducible assumption | refine bgw ?_ (by first | (simp; done) | (simp; omega) | omega) _ | refine Below.setCell ?_ (by first | exact Nat.le_of_not_lt (by assumption) | (simp; done) | (simp; omega) | omega) _ | refine Below.alloc ?_ (by first | (simp; done) | (simp; omega) | omega) _ | refine Below.drew ?_))⟩

theorem isp_b (A : Option Addr) (cap : Nat) (ns : List Int) (hl : ns.length ≤ 65536) (w : World) (hp : Ints w A ns) : Calls Try.prog 12 #[.slice A ns.length cap] w fun e w' => e = .returned (.bool (isPerm ns)) ∧ Below w.heap.size w w' := by
  obtain ⟨i0, hi, hz0, hz1, hz2⟩ := info_parts info_bool
  obtain ⟨P, hP⟩ : ∃ P, isPerm ns = P := ⟨_, rfl⟩
  rw [hP]
  go_enter Try.func12, Try.ntmps12
  go_wp2_with (refine wpList_mk rfl _ _ 27 rfl 4 i0 (.bool false) #[.bool false] rfl 1 1 Try.underlying27 hi hz0 hz1 hz2 _ _ _ _ ns.length ns.length rfl rfl rfl rfl (Nat.le_refl _) (by omega) (by unfold maxLen; omega) ?_)
  refine wp_named ?_
  intro W hW
  have k3 : blk W w.heap.size (bv (marks ns ns.length 0)).toArray 4 := by rw [hW, marks_zero, ← made_bools]; exact (by repeat (first | with_reducible exact blk_new _ _ _ | ((with_reducible refine blk_at ?_); (simp; done)) | with_reducible apply blk_alloc | with_reducible apply blk_gw))
  have hb : Below w.heap.size w W := by rw [hW]; exact (by repeat (first | with_reducible exact Below.refl _ _ | with_reducible assumption | refine bgw ?_ (by first | (simp; done) | (simp; omega) | omega) _ | refine Below.setCell ?_ (by first | exact Nat.le_of_not_lt (by assumption) | (simp; done) | (simp; omega) | omega) _ | refine Below.alloc ?_ (by first | (simp; done) | (simp; omega) | omega) _ | refine Below.drew ?_))
  clear hW
  generalize hB : w.heap.size = B at *
  go_loopw [11] (fun i wr => ∃ k : Nat, k ≤ ns.length ∧ i = .int .i64 k ∧ (∀ x ∈ ns.take k, 0 ≤ x ∧ x < ns.length) ∧ (ns.take k).Nodup ∧ blk wr B (bv (marks ns ns.length k)).toArray 4 ∧ Below B w wr)
    (fun i _ => (ns.length - intOf i).toNat)
  case atStart => exact ⟨0, by omega, rfl, by simp, by simp, k3, hb⟩
  case round =>
    obtain ⟨k, hk, rfl, hin, hnd, kB, hbw⟩ := hrel
    by_cases hlt : k < ns.length
    · have i0 : (0 : Int) ≤ (k : Int) := by omega
      have i1 : (k : Int) < (ns.length : Int) := by omega
      obtain ⟨b, off, rfl, hce⟩ := Ints.open hp (by omega)
      have d0 := hce k hlt
      have hob := World.block_lt_of_cell? w ⟨b, off + k, none⟩ d0
      have d1 : wr.cell? ⟨b, off + k, none⟩ = some (.int .i64 ns[k]) := (hbw.cell (p := ⟨b, off + k, none⟩) (by rw [← hB]; exact hob)).trans d0
      clear d0
      generalize hx : ns[k] = x at *
      have hmem : x ∈ ns := hx ▸ List.getElem_mem hlt
      by_cases hx0 : x < 0
      · have e : P = false := hP.symm.trans (isPerm_out hmem (by omega))
        subst e
        go_wp2_with fail
        go_ret
        exact ⟨rfl, (by repeat (first | with_reducible exact Below.refl _ _ | with_reducible assumption | refine bgw ?_ (by first | (simp; done) | (simp; omega) | omega) _ | refine Below.setCell ?_ (by first | exact Nat.le_of_not_lt (by assumption) | (simp; done) | (simp; omega) | omega) _ | refine Below.alloc ?_ (by first | (simp; done) | (simp; omega) | omega) _ | refine Below.drew ?_))⟩
      by_cases hx1 : (ns.length : Int) ≤ x
      · have e : P = false := hP.symm.trans (isPerm_out hmem (by omega))
        subst e
        go_wp2_with fail
        go_ret
        exact ⟨rfl, (by repeat (first | with_reducible exact Below.refl _ _ | with_reducible assumption | refine bgw ?_ (by first | (simp; done) | (simp; omega) | omega) _ | refine Below.setCell ?_ (by first | exact Nat.le_of_not_lt (by assumption) | (simp; done) | (simp; omega) | omega) _ | refine Below.alloc ?_ (by first | (simp; done) | (simp; omega) | omega) _ | refine Below.drew ?_))⟩
      have x0 : 0 ≤ x := by omega
      have x1 : x < (ns.length : Int) := by omega
      have hxn : x.toNat < ns.length := by omega
      have c0 : wr.cell? ⟨B, x.toNat, none⟩ = some (.bool (decide (x ∈ ns.take k))) := by
        rw [blk_cell kB, bv_arr _ _ (by simpa using hxn), marks_get, Int.toNat_of_nonneg x0]
      have f0 := blk_free kB x.toNat
      have oB := blk_older kB
      by_cases hs : x ∈ ns.take k
      · have e : P = false := hP.symm.trans (isPerm_twice hlt (by rw [hx]; exact hs))
        subst e
        rw [decide_eq_true hs] at c0
        go_wp2_with fail
        go_ret
        exact ⟨rfl, (by repeat (first | with_reducible exact Below.refl _ _ | with_reducible assumption | refine bgw ?_ (by first | (simp; done) | (simp; omega) | omega) _ | refine Below.setCell ?_ (by first | exact Nat.le_of_not_lt (by assumption) | (simp; done) | (simp; omega) | omega) _ | refine Below.alloc ?_ (by first | (simp; done) | (simp; omega) | omega) _ | refine Below.drew ?_))⟩
      · rw [decide_eq_false hs] at c0
        go_wp2_with fail
        refine ⟨⟨k + 1, by omega, by go_num, fun y hy => ?_, nodup_take_succ hlt hnd (by rw [hx]; exact hs), ?_, (by repeat (first | with_reducible exact Below.refl _ _ | with_reducible assumption | refine bgw ?_ (by first | (simp; done) | (simp; omega) | omega) _ | refine Below.setCell ?_ (by first | exact Nat.le_of_not_lt (by assumption) | (simp; done) | (simp; omega) | omega) _ | refine Below.alloc ?_ (by first | (simp; done) | (simp; omega) | omega) _ | refine Below.drew ?_))⟩, by (try go_num); simp [intOf]; (try omega)⟩
        · rcases (mem_take_succ hlt).1 hy with h | h
          · exact hin y h
          · rw [h, hx]; exact ⟨x0, x1⟩
        · rw [marks_succ ns ns.length k hlt (by rw [hx]; exact x0), hx, ← bv_arr_set]
          exact (by apply blk_of; (repeat (first | with_reducible exact kB | with_reducible apply blk_drew | with_reducible apply blk_gw | with_reducible apply blk_alloc | with_reducible apply blk_set | ((with_reducible apply blk_other); focus omega))); (first | rfl | simp))
    · obtain rfl : k = ns.length := by omega
      have i1 : ¬ (ns.length : Int) < (ns.length : Int) := by omega
      rw [List.take_length] at hin hnd
      have e : P = true := hP.symm.trans (isPerm_of hin hnd)
      subst e
      go_wp2_with fail
      go_ret
      exact ⟨rfl, (by repeat (first | with_reducible exact Below.refl _ _ | with_reducible assumption | refine bgw ?_ (by first | (simp; done) | (simp; omega) | omega) _ | refine Below.setCell ?_ (by first | exact Nat.le_of_not_lt (by assumption) | (simp; done) | (simp; omega) | omega) _ | refine Below.alloc ?_ (by first | (simp; done) | (simp; omega) | omega) _ | refine Below.drew ?_))⟩

theorem inv_b (A : Option Addr) (cap : Nat) (ns : List Int) (hl : ns.length ≤ 65536) (w : World) (hp : Ints w A ns) : Calls Try.prog 18 #[.slice A ns.length cap] w fun e w' => (∃ A' cap', e = .returned (.slice A' (inv ns).length cap') ∧ (inv ns).length ≤ cap' ∧ Ints w' A' (inv ns)) ∧ Below w.heap.size w w' := by
  obtain ⟨i0, hi, hz0, hz1, hz2⟩ := info_parts info_int
  cases hP : isPerm ns
  focus
    rw [show inv ns = [] from by simp [inv, hP]]
    go_enter Try.func18, Try.ntmps18
    go_wp2_with (first | (go_at_call 12; (first | (refine Calls.mono (gw_at (boolIs (isp_b _ _ _ (by assumption) _ (Cs.to (by with_reducible assumption) (by repeat (first | with_reducible exact Below.refl _ _ | with_reducible assumption | refine bgw ?_ (by first | (simp; done) | (simp; omega) | omega) _ | refine Below.setCell ?_ (by first | exact Nat.le_of_not_lt (by assumption) | (simp; done) | (simp; omega) | omega) _ | refine Below.alloc ?_ (by first | (simp; done) | (simp; omega) | omega) _ | refine Below.drew ?_)))) (b := true) (by assumption))) ?_; rintro e w1 ⟨rfl, q, rfl⟩) | (refine Calls.mono (gw_at (boolIs (isp_b _ _ _ (by assumption) _ (Cs.to (by with_reducible assumption) (by repeat (first | with_reducible exact Below.refl _ _ | with_reducible assumption | refine bgw ?_ (by first | (simp; done) | (simp; omega) | omega) _ | refine Below.setCell ?_ (by first | exact Nat.le_of_not_lt (by assumption) | (simp; done) | (simp; omega) | omega) _ | refine Below.alloc ?_ (by first | (simp; done) | (simp; omega) | omega) _ | refine Below.drew ?_)))) (b := false) (by assumption))) ?_; rintro e w1 ⟨rfl, q, rfl⟩) | (refine Calls.mono (gw_at (isp_b _ _ _ (by assumption) _ (Cs.to (by with_reducible assumption) (by repeat (first | with_reducible exact Below.refl _ _ | with_reducible assumption | refine bgw ?_ (by first | (simp; done) | (simp; omega) | omega) _ | refine Below.setCell ?_ (by first | exact Nat.le_of_not_lt (by assumption) | (simp; done) | (simp; omega) | omega) _ | refine Below.alloc ?_ (by first | (simp; done) | (simp; omega) | omega) _ | refine Below.drew ?_))))) ?_; rintro e w1 ⟨rfl, q, rfl⟩))))
    go_ret
    exact ⟨⟨none, 0, rfl, Nat.le_refl _, Cs.nil _ _⟩, (by repeat (first | with_reducible exact Below.refl _ _ | with_reducible assumption | refine bgw ?_ (by first | (simp; done) | (simp; omega) | omega) _ | refine Below.setCell ?_ (by first | exact Nat.le_of_not_lt (by assumption) | (simp; done) | (simp; omega) | omega) _ | refine Below.alloc ?_ (by first | (simp; done) | (simp; omega) | omega) _ | refine Below.drew ?_))⟩
  obtain ⟨X, hX⟩ : ∃ X, invk ns ns.length ns.length = X := ⟨_, rfl⟩
  rw [show inv ns = X from by rw [← hX, invk_all hP]; simp [inv, hP]]
  have hXl : X.length = ns.length := by rw [← hX]; simp
  have hnd := isPerm_nodup hP
  go_enter Try.func18, Try.ntmps18
  go_wp2_with (first | (refine wpList_mk rfl _ _ 24 rfl 3 i0 (.int .i64 0) #[.int .i64 0] rfl 1 8 Try.underlying24 hi hz0 hz1 hz2 _ _ _ _ ns.length ns.length rfl rfl rfl rfl (Nat.le_refl _) (by omega) (by unfold maxLen; omega) ?_) | (first | (go_at_call 12; (first | (refine Calls.mono (gw_at (boolIs (isp_b _ _ _ (by assumption) _ (Cs.to (by with_reducible assumption) (by repeat (first | with_reducible exact Below.refl _ _ | with_reducible assumption | refine bgw ?_ (by first | (simp; done) | (simp; omega) | omega) _ | refine Below.setCell ?_ (by first | exact Nat.le_of_not_lt (by assumption) | (simp; done) | (simp; omega) | omega) _ | refine Below.alloc ?_ (by first | (simp; done) | (simp; omega) | omega) _ | refine Below.drew ?_)))) (b := true) (by assumption))) ?_; rintro e w1 ⟨rfl, q, rfl⟩) | (refine Calls.mono (gw_at (boolIs (isp_b _ _ _ (by assumption) _ (Cs.to (by with_reducible assumption) (by repeat (first | with_reducible exact Below.refl _ _ | with_reducible assumption | refine bgw ?_ (by first | (simp; done) | (simp; omega) | omega) _ | refine Below.setCell ?_ (by first | exact Nat.le_of_not_lt (by assumption) | (simp; done) | (simp; omega) | omega) _ | refine Below.alloc ?_ (by first | (simp; done) | (simp; omega) | omega) _ | refine Below.drew ?_)))) (b := false) (by assumption))) ?_; rintro e w1 ⟨rfl, q, rfl⟩) | (refine Calls.mono (gw_at (isp_b _ _ _ (by assumption) _ (Cs.to (by with_reducible assumption) (by repeat (first | with_reducible exact Below.refl _ _ | with_reducible assumption | refine bgw ?_ (by first | (simp; done) | (simp; omega) | omega) _ | refine Below.setCell ?_ (by first | exact Nat.le_of_not_lt (by assumption) | (simp; done) | (simp; omega) | omega) _ | refine Below.alloc ?_ (by first | (simp; done) | (simp; omega) | omega) _ | refine Below.drew ?_))))) ?_; rintro e w1 ⟨rfl, q, rfl⟩)))))
  refine wp_named ?_
  intro W hW
  generalize hB : w.heap.size + Array.size (Gw.os _) = B at *
  have k3 : blk W B (iv (invk ns ns.length 0)).toArray 3 := by rw [hW, ← hB, invk_zero, ← made_ints]; exact (by repeat (first | with_reducible exact blk_new _ _ _ | ((with_reducible refine blk_at ?_); (simp; done)) | with_reducible apply blk_alloc | with_reducible apply blk_gw))
  have hb : Below w.heap.size w W := by rw [hW]; exact (by repeat (first | with_reducible exact Below.refl _ _ | with_reducible assumption | refine bgw ?_ (by first | (simp; done) | (simp; omega) | omega) _ | refine Below.setCell ?_ (by first | exact Nat.le_of_not_lt (by assumption) | (simp; done) | (simp; omega) | omega) _ | refine Below.alloc ?_ (by first | (simp; done) | (simp; omega) | omega) _ | refine Below.drew ?_))
  have hBw : w.heap.size ≤ B := by omega
  clear hW
  go_loopw [14] (fun i wr => ∃ k : Nat, k ≤ ns.length ∧ i = .int .i64 k ∧ blk wr B (iv (invk ns ns.length k)).toArray 3 ∧ Below w.heap.size w wr)
    (fun i _ => (ns.length - intOf i).toNat)
  case atStart => exact ⟨0, by omega, rfl, k3, hb⟩
  case round =>
    obtain ⟨k, hk, rfl, kB, hbw⟩ := hrel
    have hsz := hbw.size
    by_cases hlt : k < ns.length
    · have j0 : (0 : Int) ≤ (k : Int) := by omega
      have i1 : (k : Int) < (ns.length : Int) := by omega
      obtain ⟨b, off, rfl, hce⟩ := Ints.open (hp.to hbw) (by omega)
      have d1 := hce k hlt
      obtain ⟨x0, x1⟩ := isPerm_in hP (List.getElem_mem hlt)
      have hs := invk_succ ns ns.length k hlt hnd x0
      generalize hx : ns[k] = x at *
      have hxn : x.toNat < ns.length := by omega
      have c0 : wr.cell? ⟨B, x.toNat, none⟩ = some (.int .i64 ((invk ns ns.length k)[x.toNat]'(by simpa using hxn))) := by rw [blk_cell kB, iv_arr _ _ (by simpa using hxn)]
      have f0 := blk_free kB x.toNat
      have oB := blk_older kB
      go_wp2_with (first | (go_at_call 12; (first | (refine Calls.mono (gw_at (boolIs (isp_b _ _ _ (by assumption) _ (Cs.to (by with_reducible assumption) (by repeat (first | with_reducible exact Below.refl _ _ | with_reducible assumption | refine bgw ?_ (by first | (simp; done) | (simp; omega) | omega) _ | refine Below.setCell ?_ (by first | exact Nat.le_of_not_lt (by assumption) | (simp; done) | (simp; omega) | omega) _ | refine Below.alloc ?_ (by first | (simp; done) | (simp; omega) | omega) _ | refine Below.drew ?_)))) (b := true) (by assumption))) ?_; rintro e w1 ⟨rfl, q, rfl⟩) | (refine Calls.mono (gw_at (boolIs (isp_b _ _ _ (by assumption) _ (Cs.to (by with_reducible assumption) (by repeat (first | with_reducible exact Below.refl _ _ | with_reducible assumption | refine bgw ?_ (by first | (simp; done) | (simp; omega) | omega) _ | refine Below.setCell ?_ (by first | exact Nat.le_of_not_lt (by assumption) | (simp; done) | (simp; omega) | omega) _ | refine Below.alloc ?_ (by first | (simp; done) | (simp; omega) | omega) _ | refine Below.drew ?_)))) (b := false) (by assumption))) ?_; rintro e w1 ⟨rfl, q, rfl⟩) | (refine Calls.mono (gw_at (isp_b _ _ _ (by assumption) _ (Cs.to (by with_reducible assumption) (by repeat (first | with_reducible exact Below.refl _ _ | with_reducible assumption | refine bgw ?_ (by first | (simp; done) | (simp; omega) | omega) _ | refine Below.setCell ?_ (by first | exact Nat.le_of_not_lt (by assumption) | (simp; done) | (simp; omega) | omega) _ | refine Below.alloc ?_ (by first | (simp; done) | (simp; omega) | omega) _ | refine Below.drew ?_))))) ?_; rintro e w1 ⟨rfl, q, rfl⟩))))
      refine ⟨⟨k + 1, by omega, by go_num, ?_, (by repeat (first | with_reducible exact Below.refl _ _ | with_reducible assumption | refine bgw ?_ (by first | (simp; done) | (simp; omega) | omega) _ | refine Below.setCell ?_ (by first | exact Nat.le_of_not_lt (by assumption) | (simp; done) | (simp; omega) | omega) _ | refine Below.alloc ?_ (by first | (simp; done) | (simp; omega) | omega) _ | refine Below.drew ?_))⟩, by (try go_num); simp [intOf]; (try omega)⟩
      rw [hs, ← iv_arr_set]; exact (by apply blk_of; (repeat (first | with_reducible exact kB | with_reducible apply blk_drew | with_reducible apply blk_gw | with_reducible apply blk_alloc | with_reducible apply blk_set | ((with_reducible apply blk_other); focus omega))); (first | rfl | simp))
    · obtain rfl : k = ns.length := by omega
      have i1 : ¬ (ns.length : Int) < (ns.length : Int) := by omega
      rw [hX] at kB
      go_wp2_with (first | (go_at_call 12; (first | (refine Calls.mono (gw_at (boolIs (isp_b _ _ _ (by assumption) _ (Cs.to (by with_reducible assumption) (by repeat (first | with_reducible exact Below.refl _ _ | with_reducible assumption | refine bgw ?_ (by first | (simp; done) | (simp; omega) | omega) _ | refine Below.setCell ?_ (by first | exact Nat.le_of_not_lt (by assumption) | (simp; done) | (simp; omega) | omega) _ | refine Below.alloc ?_ (by first | (simp; done) | (simp; omega) | omega) _ | refine Below.drew ?_)))) (b := true) (by assumption))) ?_; rintro e w1 ⟨rfl, q, rfl⟩) | (refine Calls.mono (gw_at (boolIs (isp_b _ _ _ (by assumption) _ (Cs.to (by with_reducible assumption) (by repeat (first | with_reducible exact Below.refl _ _ | with_reducible assumption | refine bgw ?_ (by first | (simp; done) | (simp; omega) | omega) _ | refine Below.setCell ?_ (by first | exact Nat.le_of_not_lt (by assumption) | (simp; done) | (simp; omega) | omega) _ | refine Below.alloc ?_ (by first | (simp; done) | (simp; omega) | omega) _ | refine Below.drew ?_)))) (b := false) (by assumption))) ?_; rintro e w1 ⟨rfl, q, rfl⟩) | (refine Calls.mono (gw_at (isp_b _ _ _ (by assumption) _ (Cs.to (by with_reducible assumption) (by repeat (first | with_reducible exact Below.refl _ _ | with_reducible assumption | refine bgw ?_ (by first | (simp; done) | (simp; omega) | omega) _ | refine Below.setCell ?_ (by first | exact Nat.le_of_not_lt (by assumption) | (simp; done) | (simp; omega) | omega) _ | refine Below.alloc ?_ (by first | (simp; done) | (simp; omega) | omega) _ | refine Below.drew ?_))))) ?_; rintro e w1 ⟨rfl, q, rfl⟩))))
      go_ret
      exact ⟨⟨_, _, rfl, by omega, Cs.to (Cs.of_list kB) (by repeat (first | with_reducible exact Below.refl _ _ | with_reducible assumption | refine bgw ?_ (by first | (simp; done) | (simp; omega) | omega) _ | refine Below.setCell ?_ (by first | exact Nat.le_of_not_lt (by assumption) | (simp; done) | (simp; omega) | omega) _ | refine Below.alloc ?_ (by first | (simp; done) | (simp; omega) | omega) _ | refine Below.drew ?_))⟩, (by repeat (first | with_reducible exact Below.refl _ _ | with_reducible assumption | refine bgw ?_ (by first | (simp; done) | (simp; omega) | omega) _ | refine Below.setCell ?_ (by first | exact Nat.le_of_not_lt (by assumption) | (simp; done) | (simp; omega) | omega) _ | refine Below.alloc ?_ (by first | (simp; done) | (simp; omega) | omega) _ | refine Below.drew ?_))⟩

theorem app_b (L A : Option Addr) (cl cap : Nat) (ls ns : List Int) (hll : ls.length ≤ 65536) (hl : ns.length ≤ 65536) (w : World) (hq : Ints w L ls) (hp : Ints w A ns) : Calls Try.prog 22 #[.slice L ls.length cl, .slice A ns.length cap] w fun e w' => (∃ A' cap', e = .returned (.slice A' (app 0 ls ns).length cap') ∧ (app 0 ls ns).length ≤ cap' ∧ Ints w' A' (app 0 ls ns)) ∧ Below w.heap.size w w' := by
  obtain ⟨i0, hi, hz0, hz1, hz2⟩ := info_parts info_int
  by_cases hlen : ls.length = ns.length
  rotate_left
  focus
    rw [show app 0 ls ns = [] from by simp [app, hlen]]
    have hlen' : ¬ (ls.length : Int) = (ns.length : Int) := by omega
    go_enter Try.func22, Try.ntmps22
    go_wp2_with (first | (go_at_call 12; (first | (refine Calls.mono (gw_at (boolIs (isp_b _ _ _ (by assumption) _ (Cs.to (by with_reducible assumption) (by repeat (first | with_reducible exact Below.refl _ _ | with_reducible assumption | refine bgw ?_ (by first | (simp; done) | (simp; omega) | omega) _ | refine Below.setCell ?_ (by first | exact Nat.le_of_not_lt (by assumption) | (simp; done) | (simp; omega) | omega) _ | refine Below.alloc ?_ (by first | (simp; done) | (simp; omega) | omega) _ | refine Below.drew ?_)))) (b := true) (by assumption))) ?_; rintro e w1 ⟨rfl, q, rfl⟩) | (refine Calls.mono (gw_at (boolIs (isp_b _ _ _ (by assumption) _ (Cs.to (by with_reducible assumption) (by repeat (first | with_reducible exact Below.refl _ _ | with_reducible assumption | refine bgw ?_ (by first | (simp; done) | (simp; omega) | omega) _ | refine Below.setCell ?_ (by first | exact Nat.le_of_not_lt (by assumption) | (simp; done) | (simp; omega) | omega) _ | refine Below.alloc ?_ (by first | (simp; done) | (simp; omega) | omega) _ | refine Below.drew ?_)))) (b := false) (by assumption))) ?_; rintro e w1 ⟨rfl, q, rfl⟩) | (refine Calls.mono (gw_at (isp_b _ _ _ (by assumption) _ (Cs.to (by with_reducible assumption) (by repeat (first | with_reducible exact Below.refl _ _ | with_reducible assumption | refine bgw ?_ (by first | (simp; done) | (simp; omega) | omega) _ | refine Below.setCell ?_ (by first | exact Nat.le_of_not_lt (by assumption) | (simp; done) | (simp; omega) | omega) _ | refine Below.alloc ?_ (by first | (simp; done) | (simp; omega) | omega) _ | refine Below.drew ?_))))) ?_; rintro e w1 ⟨rfl, q, rfl⟩))))
    go_ret
    exact ⟨⟨none, 0, rfl, Nat.le_refl _, Cs.nil _ _⟩, (by repeat (first | with_reducible exact Below.refl _ _ | with_reducible assumption | refine bgw ?_ (by first | (simp; done) | (simp; omega) | omega) _ | refine Below.setCell ?_ (by first | exact Nat.le_of_not_lt (by assumption) | (simp; done) | (simp; omega) | omega) _ | refine Below.alloc ?_ (by first | (simp; done) | (simp; omega) | omega) _ | refine Below.drew ?_))⟩
  have hlen' : (ls.length : Int) = (ns.length : Int) := by omega
  cases hP : isPerm ns
  focus
    rw [show app 0 ls ns = [] from by simp [app, hP]]
    clear hlen
    go_enter Try.func22, Try.ntmps22
    go_wp2_with (first | (go_at_call 12; (first | (refine Calls.mono (gw_at (boolIs (isp_b _ _ _ (by assumption) _ (Cs.to (by with_reducible assumption) (by repeat (first | with_reducible exact Below.refl _ _ | with_reducible assumption | refine bgw ?_ (by first | (simp; done) | (simp; omega) | omega) _ | refine Below.setCell ?_ (by first | exact Nat.le_of_not_lt (by assumption) | (simp; done) | (simp; omega) | omega) _ | refine Below.alloc ?_ (by first | (simp; done) | (simp; omega) | omega) _ | refine Below.drew ?_)))) (b := true) (by assumption))) ?_; rintro e w1 ⟨rfl, q, rfl⟩) | (refine Calls.mono (gw_at (boolIs (isp_b _ _ _ (by assumption) _ (Cs.to (by with_reducible assumption) (by repeat (first | with_reducible exact Below.refl _ _ | with_reducible assumption | refine bgw ?_ (by first | (simp; done) | (simp; omega) | omega) _ | refine Below.setCell ?_ (by first | exact Nat.le_of_not_lt (by assumption) | (simp; done) | (simp; omega) | omega) _ | refine Below.alloc ?_ (by first | (simp; done) | (simp; omega) | omega) _ | refine Below.drew ?_)))) (b := false) (by assumption))) ?_; rintro e w1 ⟨rfl, q, rfl⟩) | (refine Calls.mono (gw_at (isp_b _ _ _ (by assumption) _ (Cs.to (by with_reducible assumption) (by repeat (first | with_reducible exact Below.refl _ _ | with_reducible assumption | refine bgw ?_ (by first | (simp; done) | (simp; omega) | omega) _ | refine Below.setCell ?_ (by first | exact Nat.le_of_not_lt (by assumption) | (simp; done) | (simp; omega) | omega) _ | refine Below.alloc ?_ (by first | (simp; done) | (simp; omega) | omega) _ | refine Below.drew ?_))))) ?_; rintro e w1 ⟨rfl, q, rfl⟩))))
    go_ret
    exact ⟨⟨none, 0, rfl, Nat.le_refl _, Cs.nil _ _⟩, (by repeat (first | with_reducible exact Below.refl _ _ | with_reducible assumption | refine bgw ?_ (by first | (simp; done) | (simp; omega) | omega) _ | refine Below.setCell ?_ (by first | exact Nat.le_of_not_lt (by assumption) | (simp; done) | (simp; omega) | omega) _ | refine Below.alloc ?_ (by first | (simp; done) | (simp; omega) | omega) _ | refine Below.drew ?_))⟩
  obtain ⟨X, hX⟩ : ∃ X, fillk 0 (fun p => ls.getD (ns.getD p 0).toNat 0) ns.length ns.length = X := ⟨_, rfl⟩
  rw [show app 0 ls ns = X from by rw [← hX, fillk_all, app_range]; simp [app, hP, hlen]]
  have hXl : X.length = ns.length := by rw [← hX]; simp
  go_enter Try.func22, Try.ntmps22
  go_wp2_with (first | (refine wpList_mk rfl _ _ 24 rfl 3 i0 (.int .i64 0) #[.int .i64 0] rfl 1 8 Try.underlying24 hi hz0 hz1 hz2 _ _ _ _ ns.length ns.length rfl rfl rfl rfl (Nat.le_refl _) (by omega) (by unfold maxLen; omega) ?_) | (first | (go_at_call 12; (first | (refine Calls.mono (gw_at (boolIs (isp_b _ _ _ (by assumption) _ (Cs.to (by with_reducible assumption) (by repeat (first | with_reducible exact Below.refl _ _ | with_reducible assumption | refine bgw ?_ (by first | (simp; done) | (simp; omega) | omega) _ | refine Below.setCell ?_ (by first | exact Nat.le_of_not_lt (by assumption) | (simp; done) | (simp; omega) | omega) _ | refine Below.alloc ?_ (by first | (simp; done) | (simp; omega) | omega) _ | refine Below.drew ?_)))) (b := true) (by assumption))) ?_; rintro e w1 ⟨rfl, q, rfl⟩) | (refine Calls.mono (gw_at (boolIs (isp_b _ _ _ (by assumption) _ (Cs.to (by with_reducible assumption) (by repeat (first | with_reducible exact Below.refl _ _ | with_reducible assumption | refine bgw ?_ (by first | (simp; done) | (simp; omega) | omega) _ | refine Below.setCell ?_ (by first | exact Nat.le_of_not_lt (by assumption) | (simp; done) | (simp; omega) | omega) _ | refine Below.alloc ?_ (by first | (simp; done) | (simp; omega) | omega) _ | refine Below.drew ?_)))) (b := false) (by assumption))) ?_; rintro e w1 ⟨rfl, q, rfl⟩) | (refine Calls.mono (gw_at (isp_b _ _ _ (by assumption) _ (Cs.to (by with_reducible assumption) (by repeat (first | with_reducible exact Below.refl _ _ | with_reducible assumption | refine bgw ?_ (by first | (simp; done) | (simp; omega) | omega) _ | refine Below.setCell ?_ (by first | exact Nat.le_of_not_lt (by assumption) | (simp; done) | (simp; omega) | omega) _ | refine Below.alloc ?_ (by first | (simp; done) | (simp; omega) | omega) _ | refine Below.drew ?_))))) ?_; rintro e w1 ⟨rfl, q, rfl⟩)))))
  refine wp_named ?_
  intro W hW
  generalize hB : w.heap.size + Array.size (Gw.os _) = B at *
  have k3 : blk W B (iv (fillk 0 (fun p => ls.getD (ns.getD p 0).toNat 0) ns.length 0)).toArray 3 := by rw [hW, ← hB, fillk_zero, ← made_ints]; exact (by repeat (first | with_reducible exact blk_new _ _ _ | ((with_reducible refine blk_at ?_); (simp; done)) | with_reducible apply blk_alloc | with_reducible apply blk_gw))
  have hb : Below w.heap.size w W := by rw [hW]; exact (by repeat (first | with_reducible exact Below.refl _ _ | with_reducible assumption | refine bgw ?_ (by first | (simp; done) | (simp; omega) | omega) _ | refine Below.setCell ?_ (by first | exact Nat.le_of_not_lt (by assumption) | (simp; done) | (simp; omega) | omega) _ | refine Below.alloc ?_ (by first | (simp; done) | (simp; omega) | omega) _ | refine Below.drew ?_))
  have hBw : w.heap.size ≤ B := by omega
  clear hW
  go_loopw [23] (fun i wr => ∃ k : Nat, k ≤ ns.length ∧ i = .int .i64 k ∧ blk wr B (iv (fillk 0 (fun p => ls.getD (ns.getD p 0).toNat 0) ns.length k)).toArray 3 ∧ Below w.heap.size w wr)
    (fun i _ => (ns.length - intOf i).toNat)
  case atStart => exact ⟨0, by omega, rfl, k3, hb⟩
  case round =>
    obtain ⟨k, hk, rfl, kB, hbw⟩ := hrel
    have hsz := hbw.size
    by_cases hlt : k < ns.length
    · have j0 : (0 : Int) ≤ (k : Int) := by omega
      have i1 : (k : Int) < (ns.length : Int) := by omega
      obtain ⟨b, off, rfl, hce⟩ := Ints.open (hp.to hbw) (by omega)
      obtain ⟨b2, off2, rfl, hce2⟩ := Ints.open (hq.to hbw) (by omega)
      obtain ⟨x0, x1⟩ := isPerm_in hP (List.getElem_mem hlt)
      have d1 := hce k hlt
      have hs := fillk_succ 0 (fun p => ls.getD (ns.getD p 0).toNat 0) ns.length k
      rw [show ns.getD k 0 = ns[k] from by simp [hlt]] at hs
      generalize hx : ns[k] = x at *
      have hxl : x.toNat < ls.length := by omega
      have x2 : x < (ls.length : Int) := by omega
      have d2 := hce2 x.toNat hxl
      rw [show ls.getD x.toNat 0 = ls[x.toNat] from by simp [hxl]] at hs
      obtain ⟨y, hy⟩ : ∃ y, ls[x.toNat] = y := ⟨_, rfl⟩
      rw [hy] at d2 hs
      have c0 : wr.cell? ⟨B, k, none⟩ = some (.int .i64 ((fillk 0 (fun p => ls.getD (ns.getD p 0).toNat 0) ns.length k)[k]'(by simpa using hlt))) := by rw [blk_cell kB, iv_arr _ _ (by simpa using hlt)]
      have f0 := blk_free kB k
      have oB := blk_older kB
      clear hlen hlen'
      go_wp2_with (first | (go_at_call 12; (first | (refine Calls.mono (gw_at (boolIs (isp_b _ _ _ (by assumption) _ (Cs.to (by with_reducible assumption) (by repeat (first | with_reducible exact Below.refl _ _ | with_reducible assumption | refine bgw ?_ (by first | (simp; done) | (simp; omega) | omega) _ | refine Below.setCell ?_ (by first | exact Nat.le_of_not_lt (by assumption) | (simp; done) | (simp; omega) | omega) _ | refine Below.alloc ?_ (by first | (simp; done) | (simp; omega) | omega) _ | refine Below.drew ?_)))) (b := true) (by assumption))) ?_; rintro e w1 ⟨rfl, q, rfl⟩) | (refine Calls.mono (gw_at (boolIs (isp_b _ _ _ (by assumption) _ (Cs.to (by with_reducible assumption) (by repeat (first | with_reducible exact Below.refl _ _ | with_reducible assumption | refine bgw ?_ (by first | (simp; done) | (simp; omega) | omega) _ | refine Below.setCell ?_ (by first | exact Nat.le_of_not_lt (by assumption) | (simp; done) | (simp; omega) | omega) _ | refine Below.alloc ?_ (by first | (simp; done) | (simp; omega) | omega) _ | refine Below.drew ?_)))) (b := false) (by assumption))) ?_; rintro e w1 ⟨rfl, q, rfl⟩) | (refine Calls.mono (gw_at (isp_b _ _ _ (by assumption) _ (Cs.to (by with_reducible assumption) (by repeat (first | with_reducible exact Below.refl _ _ | with_reducible assumption | refine bgw ?_ (by first | (simp; done) | (simp; omega) | omega) _ | refine Below.setCell ?_ (by first | exact Nat.le_of_not_lt (by assumption) | (simp; done) | (simp; omega) | omega) _ | refine Below.alloc ?_ (by first | (simp; done) | (simp; omega) | omega) _ | refine Below.drew ?_))))) ?_; rintro e w1 ⟨rfl, q, rfl⟩))))
      refine ⟨⟨k + 1, by omega, by go_num, ?_, (by repeat (first | with_reducible exact Below.refl _ _ | with_reducible assumption | refine bgw ?_ (by first | (simp; done) | (simp; omega) | omega) _ | refine Below.setCell ?_ (by first | exact Nat.le_of_not_lt (by assumption) | (simp; done) | (simp; omega) | omega) _ | refine Below.alloc ?_ (by first | (simp; done) | (simp; omega) | omega) _ | refine Below.drew ?_))⟩, by (try go_num); simp [intOf]; (try omega)⟩
      rw [hs, ← iv_arr_set]; exact (by apply blk_of; (repeat (first | with_reducible exact kB | with_reducible apply blk_drew | with_reducible apply blk_gw | with_reducible apply blk_alloc | with_reducible apply blk_set | ((with_reducible apply blk_other); focus omega))); (first | rfl | simp))
    · obtain rfl : k = ns.length := by omega
      have i1 : ¬ (ns.length : Int) < (ns.length : Int) := by omega
      rw [hX] at kB
      go_wp2_with (first | (go_at_call 12; (first | (refine Calls.mono (gw_at (boolIs (isp_b _ _ _ (by assumption) _ (Cs.to (by with_reducible assumption) (by repeat (first | with_reducible exact Below.refl _ _ | with_reducible assumption | refine bgw ?_ (by first | (simp; done) | (simp; omega) | omega) _ | refine Below.setCell ?_ (by first | exact Nat.le_of_not_lt (by assumption) | (simp; done) | (simp; omega) | omega) _ | refine Below.alloc ?_ (by first | (simp; done) | (simp; omega) | omega) _ | refine Below.drew ?_)))) (b := true) (by assumption))) ?_; rintro e w1 ⟨rfl, q, rfl⟩) | (refine Calls.mono (gw_at (boolIs (isp_b _ _ _ (by assumption) _ (Cs.to (by with_reducible assumption) (by repeat (first | with_reducible exact Below.refl _ _ | with_reducible assumption | refine bgw ?_ (by first | (simp; done) | (simp; omega) | omega) _ | refine Below.setCell ?_ (by first | exact Nat.le_of_not_lt (by assumption) | (simp; done) | (simp; omega) | omega) _ | refine Below.alloc ?_ (by first | (simp; done) | (simp; omega) | omega) _ | refine Below.drew ?_)))) (b := false) (by assumption))) ?_; rintro e w1 ⟨rfl, q, rfl⟩) | (refine Calls.mono (gw_at (isp_b _ _ _ (by assumption) _ (Cs.to (by with_reducible assumption) (by repeat (first | with_reducible exact Below.refl _ _ | with_reducible assumption | refine bgw ?_ (by first | (simp; done) | (simp; omega) | omega) _ | refine Below.setCell ?_ (by first | exact Nat.le_of_not_lt (by assumption) | (simp; done) | (simp; omega) | omega) _ | refine Below.alloc ?_ (by first | (simp; done) | (simp; omega) | omega) _ | refine Below.drew ?_))))) ?_; rintro e w1 ⟨rfl, q, rfl⟩))))
      go_ret
      exact ⟨⟨_, _, rfl, by omega, Cs.to (Cs.of_list kB) (by repeat (first | with_reducible exact Below.refl _ _ | with_reducible assumption | refine bgw ?_ (by first | (simp; done) | (simp; omega) | omega) _ | refine Below.setCell ?_ (by first | exact Nat.le_of_not_lt (by assumption) | (simp; done) | (simp; omega) | omega) _ | refine Below.alloc ?_ (by first | (simp; done) | (simp; omega) | omega) _ | refine Below.drew ?_))⟩, (by repeat (first | with_reducible exact Below.refl _ _ | with_reducible assumption | refine bgw ?_ (by first | (simp; done) | (simp; omega) | omega) _ | refine Below.setCell ?_ (by first | exact Nat.le_of_not_lt (by assumption) | (simp; done) | (simp; omega) | omega) _ | refine Below.alloc ?_ (by first | (simp; done) | (simp; omega) | omega) _ | refine Below.drew ?_))⟩

theorem perm_b (n s : Int) (w : World) : Calls Try.prog 9 #[.int .i64 n, .int .u64 s] w fun e w' => (∃ A' cap', e = .returned (.tuple #[.slice A' (perm n s).1.length cap', .int .u64 (perm n s).2]) ∧ (perm n s).1.length ≤ cap' ∧ Ints w' A' (perm n s).1) ∧ Below w.heap.size w w' := by
  obtain ⟨i0, hi, hz0, hz1, hz2⟩ := info_parts info_int
  by_cases hn : n < 0 ∨ 4096 < n
  focus
    rw [show perm n s = ([], s) from if_pos hn]
    rcases hn with hn | hn
    all_goals
      go_enter Try.func9, Try.ntmps9
      go_wp2_with (first | (go_at_call 15; refine Calls.mono (gw_at (intn_b _ _ (by omega) _)) ?_; rintro e w1 ⟨rfl, q, rfl⟩))
      repeat
        refine wp_region_gw_tail 13 (by kernel_rfl) (by kernel_rfl) ?_
        simp only [List.take_succ_cons, List.take_zero, List.drop_succ_cons, List.drop_zero]
        repeat (go_big_quiet_step ((first | (go_at_call 15; exact gw_call (intn_b _ _ (by omega) _)))))
        refine wpQuiet_nil ?_
        intro w1 hw1
        obtain ⟨q, rfl⟩ := hw1
        go_wp2_with (first | (go_at_call 15; refine Calls.mono (gw_at (intn_b _ _ (by omega) _)) ?_; rintro e w1 ⟨rfl, q, rfl⟩))
      exact bodyPost_ret (v := .tuple #[.slice none 0 0, .int .u64 s]) (by simp [results, Try.results9, go_sem]) rfl ⟨⟨none, 0, rfl, Nat.le_refl _, Cs.nil _ _⟩, (by repeat (first | with_reducible exact Below.refl _ _ | with_reducible assumption | refine bgw ?_ (by first | (simp; done) | (simp; omega) | omega) _ | refine Below.setCell ?_ (by first | exact Nat.le_of_not_lt (by assumption) | (simp; done) | (simp; omega) | omega) _ | refine Below.alloc ?_ (by first | (simp; done) | (simp; omega) | omega) _ | refine Below.drew ?_))⟩
  obtain ⟨m, rfl⟩ : ∃ m : Nat, n = m := ⟨n.toNat, by omega⟩
  have hm : m ≤ 4096 := by omega
  obtain ⟨l2, s2, hX⟩ : ∃ l2 s2, shuf (m - 1) (rng m) s = (l2, s2) := ⟨_, _, rfl⟩
  rw [show perm m s = (l2, s2) from by rw [← hX]; simp [perm, show ¬ ((m : Int) < 0 ∨ 4096 < (m : Int)) from by omega]]
  have hl2 : l2.length = m := by have := shuf_length (m - 1) (rng m) s; rw [hX] at this; simpa using this
  go_enter Try.func9, Try.ntmps9
  go_wp2_with (first | (refine wpList_mk rfl _ _ 24 rfl 3 i0 (.int .i64 0) #[.int .i64 0] rfl 1 8 Try.underlying24 hi hz0 hz1 hz2 _ _ _ _ m m rfl rfl rfl rfl (Nat.le_refl _) (by omega) (by unfold maxLen; omega) ?_) | (first | (go_at_call 15; refine Calls.mono (gw_at (intn_b _ _ (by omega) _)) ?_; rintro e w1 ⟨rfl, q, rfl⟩)))
  refine wp_named ?_
  intro W hW
  generalize hB : w.heap.size = B at *
  have k3 : blk W B (iv (fillk 0 (fun p => (p : Int)) m 0)).toArray 3 := by rw [hW, ← hB, fillk_zero, ← made_ints]; exact (by repeat (first | with_reducible exact blk_new _ _ _ | ((with_reducible refine blk_at ?_); (simp; done)) | with_reducible apply blk_alloc | with_reducible apply blk_gw))
  have hb : Below B w W := by rw [hW, ← hB]; exact (by repeat (first | with_reducible exact Below.refl _ _ | with_reducible assumption | refine bgw ?_ (by first | (simp; done) | (simp; omega) | omega) _ | refine Below.setCell ?_ (by first | exact Nat.le_of_not_lt (by assumption) | (simp; done) | (simp; omega) | omega) _ | refine Below.alloc ?_ (by first | (simp; done) | (simp; omega) | omega) _ | refine Below.drew ?_))
  clear hW
  go_loopw [21] (fun i wr => ∃ k : Nat, k ≤ m ∧ i = .int .i64 k ∧ blk wr B (iv (fillk 0 (fun p => (p : Int)) m k)).toArray 3 ∧ Below B w wr)
    (fun i _ => (m - intOf i).toNat)
  case atStart => exact ⟨0, by omega, rfl, k3, hb⟩
  case round =>
    obtain ⟨k, hk, rfl, kB, hbw⟩ := hrel
    have hsz := hbw.size
    by_cases hlt : k < m
    · have j0 : (0 : Int) ≤ (k : Int) := by omega
      have i1 : (k : Int) < (m : Int) := by omega
      have c0 : wr.cell? ⟨B, k, none⟩ = some (.int .i64 ((fillk 0 (fun p => (p : Int)) m k)[k]'(by simpa using hlt))) := by rw [blk_cell kB, iv_arr _ _ (by simpa using hlt)]
      have f0 := blk_free kB k
      have oB := blk_older kB
      go_wp2_with (first | (go_at_call 15; refine Calls.mono (gw_at (intn_b _ _ (by omega) _)) ?_; rintro e w1 ⟨rfl, q, rfl⟩))
      refine ⟨⟨k + 1, by omega, by go_num, ?_, (by repeat (first | with_reducible exact Below.refl _ _ | with_reducible assumption | refine bgw ?_ (by first | (simp; done) | (simp; omega) | omega) _ | refine Below.setCell ?_ (by first | exact Nat.le_of_not_lt (by assumption) | (simp; done) | (simp; omega) | omega) _ | refine Below.alloc ?_ (by first | (simp; done) | (simp; omega) | omega) _ | refine Below.drew ?_))⟩, by (try go_num); simp [intOf]; (try omega)⟩
      rw [fillk_succ, ← iv_arr_set]; exact (by apply blk_of; (repeat (first | with_reducible exact kB | with_reducible apply blk_drew | with_reducible apply blk_gw | with_reducible apply blk_alloc | with_reducible apply blk_set | ((with_reducible apply blk_other); focus omega))); (first | rfl | simp))
    · obtain rfl : k = m := by omega
      have i1 : ¬ (k : Int) < (k : Int) := by omega
      rw [fillk_all] at kB
      by_cases hk0 : k = 0
      focus
        subst hk0
        have e : l2 = [] ∧ s2 = s := by simp [shuf, rng] at hX; exact ⟨hX.1, hX.2.symm⟩
        obtain ⟨rfl, rfl⟩ := e
        go_wp2_with (first | (go_at_call 15; refine Calls.mono (gw_at (intn_b _ _ (by omega) _)) ?_; rintro e w1 ⟨rfl, q, rfl⟩))
        go_loopw [1, 8] (fun st i w2 => i = .int .i64 (-1) ∧ st = .int .u64 s2 ∧ Below B w w2) (fun _ _ _ => 0)
        case atStart => exact ⟨rfl, rfl, hbw⟩
        case round =>
          obtain ⟨rfl, rfl, hb2⟩ := hrel
          go_wp2_with (first | (go_at_call 15; refine Calls.mono (gw_at (intn_b _ _ (by omega) _)) ?_; rintro e w1 ⟨rfl, q, rfl⟩))
          exact bodyPost_ret (v := .tuple #[.slice (some ⟨B, 0, none⟩) 0 0, .int .u64 s2]) (by simp [results, Try.results9, go_sem]) rfl ⟨⟨some ⟨B, 0, none⟩, 0, rfl, by simp, Cs.nil _ _⟩, by rw [hB]; exact (by repeat (first | with_reducible exact Below.refl _ _ | with_reducible assumption | refine bgw ?_ (by first | (simp; done) | (simp; omega) | omega) _ | refine Below.setCell ?_ (by first | exact Nat.le_of_not_lt (by assumption) | (simp; done) | (simp; omega) | omega) _ | refine Below.alloc ?_ (by first | (simp; done) | (simp; omega) | omega) _ | refine Below.drew ?_))⟩
      go_wp2_with (first | (go_at_call 15; refine Calls.mono (gw_at (intn_b _ _ (by omega) _)) ?_; rintro e w1 ⟨rfl, q, rfl⟩))
      go_loopw [1, 8] (fun st i w2 => ∃ (j : Nat) (l : List Int) (s' : Int), j < k ∧ i = .int .i64 j ∧ st = .int .u64 s' ∧ l.length = k ∧ shuf j l s' = (l2, s2) ∧ blk w2 B (iv l).toArray 3 ∧ Below B w w2)
        (fun _ i _ => (intOf i).toNat)
      case atStart => exact ⟨k - 1, rng k, s, by omega, by go_num, rfl, by simp, hX, kB, hbw⟩
      case round =>
        obtain ⟨j, l, s', hj, rfl, rfl, hll, hsh, kg2, hb2⟩ := hrel
        have hsz2 := hb2.size
        by_cases hj0 : j = 0
        focus
          subst hj0
          have e : l = l2 ∧ s' = s2 := by simpa [shuf] using hsh
          obtain ⟨rfl, rfl⟩ := e
          go_wp2_with (first | (go_at_call 15; refine Calls.mono (gw_at (intn_b _ _ (by omega) _)) ?_; rintro e w1 ⟨rfl, q, rfl⟩))
          exact bodyPost_ret (v := .tuple #[.slice (some ⟨B, 0, none⟩) k k, .int .u64 s']) (by simp [results, Try.results9, go_sem]) rfl ⟨⟨some ⟨B, 0, none⟩, k, by rw [hll], by omega, Cs.to (Cs.of_list kg2) (by repeat (first | with_reducible exact Below.refl _ _ | with_reducible assumption | refine bgw ?_ (by first | (simp; done) | (simp; omega) | omega) _ | refine Below.setCell ?_ (by first | exact Nat.le_of_not_lt (by assumption) | (simp; done) | (simp; omega) | omega) _ | refine Below.alloc ?_ (by first | (simp; done) | (simp; omega) | omega) _ | refine Below.drew ?_))⟩, by rw [hB]; exact (by repeat (first | with_reducible exact Below.refl _ _ | with_reducible assumption | refine bgw ?_ (by first | (simp; done) | (simp; omega) | omega) _ | refine Below.setCell ?_ (by first | exact Nat.le_of_not_lt (by assumption) | (simp; done) | (simp; omega) | omega) _ | refine Below.alloc ?_ (by first | (simp; done) | (simp; omega) | omega) _ | refine Below.drew ?_))⟩
        obtain ⟨i, rfl⟩ : ∃ i, j = i + 1 := ⟨j - 1, by omega⟩
        obtain ⟨x0, x1⟩ := ik_in (n := (i : Int) + 1 + 1) (s := s') (by omega)
        obtain ⟨x, hx⟩ : ∃ x, ik ((i : Int) + 1 + 1) s' = x := ⟨_, rfl⟩
        obtain ⟨y, hy⟩ : ∃ y, is' ((i : Int) + 1 + 1) s' = y := ⟨_, rfl⟩
        rw [shuf, hx, hy] at hsh
        rw [hx] at x0 x1
        have hil : i + 1 < l.length := by omega
        have hxl : x.toNat < l.length := by omega
        have x3 : x < (k : Int) := by omega
        have i2 : (i : Int) + 1 < (k : Int) := by omega
        obtain ⟨u, hu⟩ : ∃ u, l[i + 1] = u := ⟨_, rfl⟩
        obtain ⟨v, hv⟩ : ∃ v, l[x.toNat] = v := ⟨_, rfl⟩
        have hsw : swp l (i + 1) x.toNat = (l.set (i + 1) v).set x.toNat u := by
          unfold swp; rw [List.getD_eq_getElem?_getD, List.getD_eq_getElem?_getD, List.getElem?_eq_getElem hxl, List.getElem?_eq_getElem hil, hu, hv]; rfl
        rw [hsw] at hsh
        go_wp2_with (first | (go_at_call 15; refine Calls.mono (gw_at (intn_b _ _ (by omega) _)) ?_; rintro e w1 ⟨rfl, q, rfl⟩))
        refine wp_named ?_
        intro W2 hW2
        have kg : blk W2 B (iv l).toArray 3 := by rw [hW2]; exact blk_gw kg2
        have hb3 : Below B w W2 := by rw [hW2]; exact (by repeat (first | with_reducible exact Below.refl _ _ | with_reducible assumption | refine bgw ?_ (by first | (simp; done) | (simp; omega) | omega) _ | refine Below.setCell ?_ (by first | exact Nat.le_of_not_lt (by assumption) | (simp; done) | (simp; omega) | omega) _ | refine Below.alloc ?_ (by first | (simp; done) | (simp; omega) | omega) _ | refine Below.drew ?_))
        have hsz3 := hb3.size
        clear hW2
        have c1 : W2.cell? ⟨B, i + 1, none⟩ = some (.int .i64 u) := by rw [blk_cell kg, iv_arr _ _ hil, hu]
        have c2 : W2.cell? ⟨B, x.toNat, none⟩ = some (.int .i64 v) := by rw [blk_cell kg, iv_arr _ _ hxl, hv]
        have f1 := blk_free kg (i + 1)
        have f2 := blk_free kg x.toNat
        have og := blk_older kg
        have kg3 : blk (W2.setCell ⟨B, i + 1, none⟩ (.int .i64 v)) B (iv (l.set (i + 1) v)).toArray 3 := by rw [← iv_arr_set]; exact blk_set kg
        have c3 : (W2.setCell ⟨B, i + 1, none⟩ (.int .i64 v)).cell? ⟨B, x.toNat, none⟩ = some (.int .i64 ((l.set (i + 1) v)[x.toNat]'(by simpa using hxl))) := by rw [blk_cell kg3, iv_arr _ _ (by simpa using hxl)]
        have f3 := blk_free kg3 x.toNat
        go_region
        go_wp2_with (first | (go_at_call 15; refine Calls.mono (gw_at (intn_b _ _ (by omega) _)) ?_; rintro e w1 ⟨rfl, q, rfl⟩))
        refine ⟨⟨i, _, y, by omega, by go_num, by go_num, ?_, hsh, ?_, (by repeat (first | with_reducible exact Below.refl _ _ | with_reducible assumption | refine bgw ?_ (by first | (simp; done) | (simp; omega) | omega) _ | refine Below.setCell ?_ (by first | exact Nat.le_of_not_lt (by assumption) | (simp; done) | (simp; omega) | omega) _ | refine Below.alloc ?_ (by first | (simp; done) | (simp; omega) | omega) _ | refine Below.drew ?_))⟩, by (try go_num); simp [intOf]; (try omega)⟩
        · simpa using hll
        · rw [← iv_arr_set, ← iv_arr_set]; exact (by apply blk_of; (repeat (first | with_reducible exact kg | with_reducible apply blk_drew | with_reducible apply blk_gw | with_reducible apply blk_alloc | with_reducible apply blk_set | ((with_reducible apply blk_other); focus omega))); (first | rfl | simp))

theorem comp_b (A B : Option Addr) (ca cb : Nat) (ns ms : List Int) (hn : ns.length ≤ 65536) (hm : ms.length ≤ 65536) (w : World) (ha : Ints w A ns) (hb : Ints w B ms) : Calls Try.prog 20 #[.slice A ns.length ca, .slice B ms.length cb] w fun e w' => (∃ A' cap', e = .returned (.slice A' (comp ns ms).length cap') ∧ (comp ns ms).length ≤ cap' ∧ Ints w' A' (comp ns ms)) ∧ Below w.heap.size w w' := by
  cases hP : isPerm ns
  focus
    rw [show comp ns ms = [] from by simp [comp, hP]]
    go_enter Try.func20, Try.ntmps20
    go_wp2_with (first | (go_at_call 12; (first | (refine Calls.mono (gw_at (boolIs (isp_b _ _ _ (by assumption) _ (Cs.to (by with_reducible assumption) (by repeat (first | with_reducible exact Below.refl _ _ | with_reducible assumption | refine bgw ?_ (by first | (simp; done) | (simp; omega) | omega) _ | refine Below.setCell ?_ (by first | exact Nat.le_of_not_lt (by assumption) | (simp; done) | (simp; omega) | omega) _ | refine Below.alloc ?_ (by first | (simp; done) | (simp; omega) | omega) _ | refine Below.drew ?_)))) (b := true) (by assumption))) ?_; rintro e w1 ⟨rfl, q, rfl⟩) | (refine Calls.mono (gw_at (boolIs (isp_b _ _ _ (by assumption) _ (Cs.to (by with_reducible assumption) (by repeat (first | with_reducible exact Below.refl _ _ | with_reducible assumption | refine bgw ?_ (by first | (simp; done) | (simp; omega) | omega) _ | refine Below.setCell ?_ (by first | exact Nat.le_of_not_lt (by assumption) | (simp; done) | (simp; omega) | omega) _ | refine Below.alloc ?_ (by first | (simp; done) | (simp; omega) | omega) _ | refine Below.drew ?_)))) (b := false) (by assumption))) ?_; rintro e w1 ⟨rfl, q, rfl⟩) | (refine Calls.mono (gw_at (isp_b _ _ _ (by assumption) _ (Cs.to (by with_reducible assumption) (by repeat (first | with_reducible exact Below.refl _ _ | with_reducible assumption | refine bgw ?_ (by first | (simp; done) | (simp; omega) | omega) _ | refine Below.setCell ?_ (by first | exact Nat.le_of_not_lt (by assumption) | (simp; done) | (simp; omega) | omega) _ | refine Below.alloc ?_ (by first | (simp; done) | (simp; omega) | omega) _ | refine Below.drew ?_))))) ?_; rintro e w1 ⟨rfl, q, rfl⟩))) | (go_at_call 22; refine Calls.mono (gw_ex (app_b _ _ _ _ _ _ (by first | assumption | omega) (by first | assumption | omega) _ (Cs.to (by with_reducible assumption) (by repeat (first | with_reducible exact Below.refl _ _ | with_reducible assumption | refine bgw ?_ (by first | (simp; done) | (simp; omega) | omega) _ | refine Below.setCell ?_ (by first | exact Nat.le_of_not_lt (by assumption) | (simp; done) | (simp; omega) | omega) _ | refine Below.alloc ?_ (by first | (simp; done) | (simp; omega) | omega) _ | refine Below.drew ?_))) (Cs.to (by with_reducible assumption) (by repeat (first | with_reducible exact Below.refl _ _ | with_reducible assumption | refine bgw ?_ (by first | (simp; done) | (simp; omega) | omega) _ | refine Below.setCell ?_ (by first | exact Nat.le_of_not_lt (by assumption) | (simp; done) | (simp; omega) | omega) _ | refine Below.alloc ?_ (by first | (simp; done) | (simp; omega) | omega) _ | refine Below.drew ?_))))) ?_; rintro e w1 ⟨⟨A', cap', rfl, hle, hcs⟩, q, rfl⟩))
    go_ret
    exact ⟨⟨none, 0, rfl, Nat.le_refl _, Cs.nil _ _⟩, (by repeat (first | with_reducible exact Below.refl _ _ | with_reducible assumption | refine bgw ?_ (by first | (simp; done) | (simp; omega) | omega) _ | refine Below.setCell ?_ (by first | exact Nat.le_of_not_lt (by assumption) | (simp; done) | (simp; omega) | omega) _ | refine Below.alloc ?_ (by first | (simp; done) | (simp; omega) | omega) _ | refine Below.drew ?_))⟩
  rw [show comp ns ms = app 0 ns ms from by simp [comp, hP]]
  go_enter Try.func20, Try.ntmps20
  go_wp2_with (first | (go_at_call 22; refine Calls.mono (gw_ex (app_b _ _ _ _ ns ms hn hm _ (Cs.to ha (by repeat (first | with_reducible exact Below.refl _ _ | with_reducible assumption | refine bgw ?_ (by first | (simp; done) | (simp; omega) | omega) _ | refine Below.setCell ?_ (by first | exact Nat.le_of_not_lt (by assumption) | (simp; done) | (simp; omega) | omega) _ | refine Below.alloc ?_ (by first | (simp; done) | (simp; omega) | omega) _ | refine Below.drew ?_))) (Cs.to hb (by repeat (first | with_reducible exact Below.refl _ _ | with_reducible assumption | refine bgw ?_ (by first | (simp; done) | (simp; omega) | omega) _ | refine Below.setCell ?_ (by first | exact Nat.le_of_not_lt (by assumption) | (simp; done) | (simp; omega) | omega) _ | refine Below.alloc ?_ (by first | (simp; done) | (simp; omega) | omega) _ | refine Below.drew ?_))))) ?_; rintro e w1 ⟨⟨A', cap', rfl, hle, hcs⟩, q, rfl⟩) | (first | (go_at_call 12; (first | (refine Calls.mono (gw_at (boolIs (isp_b _ _ _ (by assumption) _ (Cs.to (by with_reducible assumption) (by repeat (first | with_reducible exact Below.refl _ _ | with_reducible assumption | refine bgw ?_ (by first | (simp; done) | (simp; omega) | omega) _ | refine Below.setCell ?_ (by first | exact Nat.le_of_not_lt (by assumption) | (simp; done) | (simp; omega) | omega) _ | refine Below.alloc ?_ (by first | (simp; done) | (simp; omega) | omega) _ | refine Below.drew ?_)))) (b := true) (by assumption))) ?_; rintro e w1 ⟨rfl, q, rfl⟩) | (refine Calls.mono (gw_at (boolIs (isp_b _ _ _ (by assumption) _ (Cs.to (by with_reducible assumption) (by repeat (first | with_reducible exact Below.refl _ _ | with_reducible assumption | refine bgw ?_ (by first | (simp; done) | (simp; omega) | omega) _ | refine Below.setCell ?_ (by first | exact Nat.le_of_not_lt (by assumption) | (simp; done) | (simp; omega) | omega) _ | refine Below.alloc ?_ (by first | (simp; done) | (simp; omega) | omega) _ | refine Below.drew ?_)))) (b := false) (by assumption))) ?_; rintro e w1 ⟨rfl, q, rfl⟩) | (refine Calls.mono (gw_at (isp_b _ _ _ (by assumption) _ (Cs.to (by with_reducible assumption) (by repeat (first | with_reducible exact Below.refl _ _ | with_reducible assumption | refine bgw ?_ (by first | (simp; done) | (simp; omega) | omega) _ | refine Below.setCell ?_ (by first | exact Nat.le_of_not_lt (by assumption) | (simp; done) | (simp; omega) | omega) _ | refine Below.alloc ?_ (by first | (simp; done) | (simp; omega) | omega) _ | refine Below.drew ?_))))) ?_; rintro e w1 ⟨rfl, q, rfl⟩))) | (go_at_call 22; refine Calls.mono (gw_ex (app_b _ _ _ _ _ _ (by first | assumption | omega) (by first | assumption | omega) _ (Cs.to (by with_reducible assumption) (by repeat (first | with_reducible exact Below.refl _ _ | with_reducible assumption | refine bgw ?_ (by first | (simp; done) | (simp; omega) | omega) _ | refine Below.setCell ?_ (by first | exact Nat.le_of_not_lt (by assumption) | (simp; done) | (simp; omega) | omega) _ | refine Below.alloc ?_ (by first | (simp; done) | (simp; omega) | omega) _ | refine Below.drew ?_))) (Cs.to (by with_reducible assumption) (by repeat (first | with_reducible exact Below.refl _ _ | with_reducible assumption | refine bgw ?_ (by first | (simp; done) | (simp; omega) | omega) _ | refine Below.setCell ?_ (by first | exact Nat.le_of_not_lt (by assumption) | (simp; done) | (simp; omega) | omega) _ | refine Below.alloc ?_ (by first | (simp; done) | (simp; omega) | omega) _ | refine Below.drew ?_))))) ?_; rintro e w1 ⟨⟨A', cap', rfl, hle, hcs⟩, q, rfl⟩)))
  go_ret
  exact ⟨⟨A', cap', rfl, hle, Cs.to hcs (by repeat (first | with_reducible exact Below.refl _ _ | with_reducible assumption | refine bgw ?_ (by first | (simp; done) | (simp; omega) | omega) _ | refine Below.setCell ?_ (by first | exact Nat.le_of_not_lt (by assumption) | (simp; done) | (simp; omega) | omega) _ | refine Below.alloc ?_ (by first | (simp; done) | (simp; omega) | omega) _ | refine Below.drew ?_))⟩, (by repeat (first | with_reducible exact Below.refl _ _ | with_reducible assumption | refine bgw ?_ (by first | (simp; done) | (simp; omega) | omega) _ | refine Below.setCell ?_ (by first | exact Nat.le_of_not_lt (by assumption) | (simp; done) | (simp; omega) | omega) _ | refine Below.alloc ?_ (by first | (simp; done) | (simp; omega) | omega) _ | refine Below.drew ?_))⟩

theorem info_vec : (Try.prog.info? 40).map (fun i => (i.zero, i.size, i.bytes)) = some (some (.agg #[.int .i64 0, .int .i64 0]), 2, 16) := by kernel_rfl

theorem appv_b (L A : Option Addr) (cl cap : Nat) (ls : List (Int × Int)) (ns : List Int) (hll : ls.length ≤ 65536) (hl : ns.length ≤ 65536) (w : World) (hq : Pts w L ls) (hp : Ints w A ns) : Calls Try.prog 24 #[.slice L ls.length cl, .slice A ns.length cap] w fun e w' => (∃ A' cap', e = .returned (.slice A' (app (0, 0) ls ns).length cap') ∧ (app (0, 0) ls ns).length ≤ cap' ∧ Pts w' A' (app (0, 0) ls ns)) ∧ Below w.heap.size w w' := by
  obtain ⟨i0, hi, hz0, hz1, hz2⟩ := info_parts info_vec
  by_cases hlen : ls.length = ns.length
  rotate_left
  focus
    rw [show app (0, 0) ls ns = [] from by simp [app, hlen]]
    have hlen' : ¬ (ls.length : Int) = (ns.length : Int) := by omega
    go_enter Try.func24, Try.ntmps24
    go_wp2_with (first | (go_at_call 12; (first | (refine Calls.mono (gw_at (boolIs (isp_b _ _ _ (by assumption) _ (Cs.to (by with_reducible assumption) (by repeat (first | with_reducible exact Below.refl _ _ | with_reducible assumption | refine bgw ?_ (by first | (simp; done) | (simp; omega) | omega) _ | refine Below.setCell ?_ (by first | exact Nat.le_of_not_lt (by assumption) | (simp; done) | (simp; omega) | omega) _ | refine Below.alloc ?_ (by first | (simp; done) | (simp; omega) | omega) _ | refine Below.drew ?_)))) (b := true) (by assumption))) ?_; rintro e w1 ⟨rfl, q, rfl⟩) | (refine Calls.mono (gw_at (boolIs (isp_b _ _ _ (by assumption) _ (Cs.to (by with_reducible assumption) (by repeat (first | with_reducible exact Below.refl _ _ | with_reducible assumption | refine bgw ?_ (by first | (simp; done) | (simp; omega) | omega) _ | refine Below.setCell ?_ (by first | exact Nat.le_of_not_lt (by assumption) | (simp; done) | (simp; omega) | omega) _ | refine Below.alloc ?_ (by first | (simp; done) | (simp; omega) | omega) _ | refine Below.drew ?_)))) (b := false) (by assumption))) ?_; rintro e w1 ⟨rfl, q, rfl⟩) | (refine Calls.mono (gw_at (isp_b _ _ _ (by assumption) _ (Cs.to (by with_reducible assumption) (by repeat (first | with_reducible exact Below.refl _ _ | with_reducible assumption | refine bgw ?_ (by first | (simp; done) | (simp; omega) | omega) _ | refine Below.setCell ?_ (by first | exact Nat.le_of_not_lt (by assumption) | (simp; done) | (simp; omega) | omega) _ | refine Below.alloc ?_ (by first | (simp; done) | (simp; omega) | omega) _ | refine Below.drew ?_))))) ?_; rintro e w1 ⟨rfl, q, rfl⟩))))
    go_ret
    exact ⟨⟨none, 0, rfl, Nat.le_refl _, .inl rfl⟩, (by repeat (first | with_reducible exact Below.refl _ _ | with_reducible assumption | refine bgw ?_ (by first | (simp; done) | (simp; omega) | omega) _ | refine Below.setCell ?_ (by first | exact Nat.le_of_not_lt (by assumption) | (simp; done) | (simp; omega) | omega) _ | refine Below.alloc ?_ (by first | (simp; done) | (simp; omega) | omega) _ | refine Below.drew ?_))⟩
  have hlen' : (ls.length : Int) = (ns.length : Int) := by omega
  cases hP : isPerm ns
  focus
    rw [show app (0, 0) ls ns = [] from by simp [app, hP]]
    clear hlen
    go_enter Try.func24, Try.ntmps24
    go_wp2_with (first | (go_at_call 12; (first | (refine Calls.mono (gw_at (boolIs (isp_b _ _ _ (by assumption) _ (Cs.to (by with_reducible assumption) (by repeat (first | with_reducible exact Below.refl _ _ | with_reducible assumption | refine bgw ?_ (by first | (simp; done) | (simp; omega) | omega) _ | refine Below.setCell ?_ (by first | exact Nat.le_of_not_lt (by assumption) | (simp; done) | (simp; omega) | omega) _ | refine Below.alloc ?_ (by first | (simp; done) | (simp; omega) | omega) _ | refine Below.drew ?_)))) (b := true) (by assumption))) ?_; rintro e w1 ⟨rfl, q, rfl⟩) | (refine Calls.mono (gw_at (boolIs (isp_b _ _ _ (by assumption) _ (Cs.to (by with_reducible assumption) (by repeat (first | with_reducible exact Below.refl _ _ | with_reducible assumption | refine bgw ?_ (by first | (simp; done) | (simp; omega) | omega) _ | refine Below.setCell ?_ (by first | exact Nat.le_of_not_lt (by assumption) | (simp; done) | (simp; omega) | omega) _ | refine Below.alloc ?_ (by first | (simp; done) | (simp; omega) | omega) _ | refine Below.drew ?_)))) (b := false) (by assumption))) ?_; rintro e w1 ⟨rfl, q, rfl⟩) | (refine Calls.mono (gw_at (isp_b _ _ _ (by assumption) _ (Cs.to (by with_reducible assumption) (by repeat (first | with_reducible exact Below.refl _ _ | with_reducible assumption | refine bgw ?_ (by first | (simp; done) | (simp; omega) | omega) _ | refine Below.setCell ?_ (by first | exact Nat.le_of_not_lt (by assumption) | (simp; done) | (simp; omega) | omega) _ | refine Below.alloc ?_ (by first | (simp; done) | (simp; omega) | omega) _ | refine Below.drew ?_))))) ?_; rintro e w1 ⟨rfl, q, rfl⟩))))
    go_ret
    exact ⟨⟨none, 0, rfl, Nat.le_refl _, .inl rfl⟩, (by repeat (first | with_reducible exact Below.refl _ _ | with_reducible assumption | refine bgw ?_ (by first | (simp; done) | (simp; omega) | omega) _ | refine Below.setCell ?_ (by first | exact Nat.le_of_not_lt (by assumption) | (simp; done) | (simp; omega) | omega) _ | refine Below.alloc ?_ (by first | (simp; done) | (simp; omega) | omega) _ | refine Below.drew ?_))⟩
  obtain ⟨X, hX⟩ : ∃ X, fillk (0, 0) (fun p => ls.getD (ns.getD p 0).toNat (0, 0)) ns.length ns.length = X := ⟨_, rfl⟩
  rw [show app (0, 0) ls ns = X from by rw [← hX, fillk_all, app_range]; simp [app, hP, hlen]]
  have hXl : X.length = ns.length := by rw [← hX]; simp
  go_enter Try.func24, Try.ntmps24
  go_wp2_with (first | (refine wpList_mk rfl _ _ 37 rfl 40 i0 (.agg #[.int .i64 0, .int .i64 0]) #[.int .i64 0, .int .i64 0] rfl 2 16 Try.underlying37 hi hz0 hz1 hz2 _ _ _ _ ns.length ns.length rfl rfl rfl rfl (Nat.le_refl _) (by omega) (by unfold maxLen; omega) ?_) | (first | (go_at_call 12; (first | (refine Calls.mono (gw_at (boolIs (isp_b _ _ _ (by assumption) _ (Cs.to (by with_reducible assumption) (by repeat (first | with_reducible exact Below.refl _ _ | with_reducible assumption | refine bgw ?_ (by first | (simp; done) | (simp; omega) | omega) _ | refine Below.setCell ?_ (by first | exact Nat.le_of_not_lt (by assumption) | (simp; done) | (simp; omega) | omega) _ | refine Below.alloc ?_ (by first | (simp; done) | (simp; omega) | omega) _ | refine Below.drew ?_)))) (b := true) (by assumption))) ?_; rintro e w1 ⟨rfl, q, rfl⟩) | (refine Calls.mono (gw_at (boolIs (isp_b _ _ _ (by assumption) _ (Cs.to (by with_reducible assumption) (by repeat (first | with_reducible exact Below.refl _ _ | with_reducible assumption | refine bgw ?_ (by first | (simp; done) | (simp; omega) | omega) _ | refine Below.setCell ?_ (by first | exact Nat.le_of_not_lt (by assumption) | (simp; done) | (simp; omega) | omega) _ | refine Below.alloc ?_ (by first | (simp; done) | (simp; omega) | omega) _ | refine Below.drew ?_)))) (b := false) (by assumption))) ?_; rintro e w1 ⟨rfl, q, rfl⟩) | (refine Calls.mono (gw_at (isp_b _ _ _ (by assumption) _ (Cs.to (by with_reducible assumption) (by repeat (first | with_reducible exact Below.refl _ _ | with_reducible assumption | refine bgw ?_ (by first | (simp; done) | (simp; omega) | omega) _ | refine Below.setCell ?_ (by first | exact Nat.le_of_not_lt (by assumption) | (simp; done) | (simp; omega) | omega) _ | refine Below.alloc ?_ (by first | (simp; done) | (simp; omega) | omega) _ | refine Below.drew ?_))))) ?_; rintro e w1 ⟨rfl, q, rfl⟩)))))
  refine wp_named ?_
  intro W hW
  generalize hB : w.heap.size + Array.size (Gw.os _) = B at *
  have k3 : blk W B (pv (fillk (0, 0) (fun p => ls.getD (ns.getD p 0).toNat (0, 0)) ns.length 0)).toArray 40 := by rw [hW, ← hB, fillk_zero, ← made_pts]; exact (by repeat (first | with_reducible exact blk_new _ _ _ | ((with_reducible refine blk_at ?_); (simp; done)) | with_reducible apply blk_alloc | with_reducible apply blk_gw))
  have hb : Below w.heap.size w W := by rw [hW]; exact (by repeat (first | with_reducible exact Below.refl _ _ | with_reducible assumption | refine bgw ?_ (by first | (simp; done) | (simp; omega) | omega) _ | refine Below.setCell ?_ (by first | exact Nat.le_of_not_lt (by assumption) | (simp; done) | (simp; omega) | omega) _ | refine Below.alloc ?_ (by first | (simp; done) | (simp; omega) | omega) _ | refine Below.drew ?_))
  have hBw : w.heap.size ≤ B := by omega
  clear hW
  go_loopw [23] (fun i wr => ∃ k : Nat, k ≤ ns.length ∧ i = .int .i64 k ∧ blk wr B (pv (fillk (0, 0) (fun p => ls.getD (ns.getD p 0).toNat (0, 0)) ns.length k)).toArray 40 ∧ Below w.heap.size w wr)
    (fun i _ => (ns.length - intOf i).toNat)
  case atStart => exact ⟨0, by omega, rfl, k3, hb⟩
  case round =>
    obtain ⟨k, hk, rfl, kB, hbw⟩ := hrel
    have hsz := hbw.size
    by_cases hlt : k < ns.length
    · have j0 : (0 : Int) ≤ (k : Int) := by omega
      have i1 : (k : Int) < (ns.length : Int) := by omega
      obtain ⟨b, off, rfl, hce⟩ := Ints.open (hp.to hbw) (by omega)
      obtain ⟨b2, off2, rfl, hce2⟩ := Pts.open (hq.to hbw) (by omega)
      obtain ⟨x0, x1⟩ := isPerm_in hP (List.getElem_mem hlt)
      have d1 := hce k hlt
      have hs := fillk_succ (0, 0) (fun p => ls.getD (ns.getD p 0).toNat (0, 0)) ns.length k
      rw [show ns.getD k 0 = ns[k] from by simp [hlt]] at hs
      generalize hx : ns[k] = x at *
      have hxl : x.toNat < ls.length := by omega
      have x2 : x < (ls.length : Int) := by omega
      obtain ⟨d2, d3⟩ := hce2 x.toNat hxl
      rw [show ls.getD x.toNat (0, 0) = ls[x.toNat] from by simp [hxl]] at hs
      obtain ⟨y, hy⟩ : ∃ y, ls[x.toNat] = y := ⟨_, rfl⟩
      rw [hy] at d2 d3 hs
      obtain ⟨y1, y2⟩ := y
      obtain ⟨c0, c1⟩ := pv_arr (fillk (0, 0) (fun p => ls.getD (ns.getD p 0).toNat (0, 0)) ns.length k) k (by simpa using hlt)
      rw [← blk_cell kB] at c0 c1
      have f0 := blk_free kB (k * 2)
      have f1 := blk_free kB (k * 2 + 1)
      have oB := blk_older kB
      clear hlen hlen'
      go_wp2_with (first | (go_at_call 12; (first | (refine Calls.mono (gw_at (boolIs (isp_b _ _ _ (by assumption) _ (Cs.to (by with_reducible assumption) (by repeat (first | with_reducible exact Below.refl _ _ | with_reducible assumption | refine bgw ?_ (by first | (simp; done) | (simp; omega) | omega) _ | refine Below.setCell ?_ (by first | exact Nat.le_of_not_lt (by assumption) | (simp; done) | (simp; omega) | omega) _ | refine Below.alloc ?_ (by first | (simp; done) | (simp; omega) | omega) _ | refine Below.drew ?_)))) (b := true) (by assumption))) ?_; rintro e w1 ⟨rfl, q, rfl⟩) | (refine Calls.mono (gw_at (boolIs (isp_b _ _ _ (by assumption) _ (Cs.to (by with_reducible assumption) (by repeat (first | with_reducible exact Below.refl _ _ | with_reducible assumption | refine bgw ?_ (by first | (simp; done) | (simp; omega) | omega) _ | refine Below.setCell ?_ (by first | exact Nat.le_of_not_lt (by assumption) | (simp; done) | (simp; omega) | omega) _ | refine Below.alloc ?_ (by first | (simp; done) | (simp; omega) | omega) _ | refine Below.drew ?_)))) (b := false) (by assumption))) ?_; rintro e w1 ⟨rfl, q, rfl⟩) | (refine Calls.mono (gw_at (isp_b _ _ _ (by assumption) _ (Cs.to (by with_reducible assumption) (by repeat (first | with_reducible exact Below.refl _ _ | with_reducible assumption | refine bgw ?_ (by first | (simp; done) | (simp; omega) | omega) _ | refine Below.setCell ?_ (by first | exact Nat.le_of_not_lt (by assumption) | (simp; done) | (simp; omega) | omega) _ | refine Below.alloc ?_ (by first | (simp; done) | (simp; omega) | omega) _ | refine Below.drew ?_))))) ?_; rintro e w1 ⟨rfl, q, rfl⟩))))
      refine ⟨⟨k + 1, by omega, by go_num, ?_, (by repeat (first | with_reducible exact Below.refl _ _ | with_reducible assumption | refine bgw ?_ (by first | (simp; done) | (simp; omega) | omega) _ | refine Below.setCell ?_ (by first | exact Nat.le_of_not_lt (by assumption) | (simp; done) | (simp; omega) | omega) _ | refine Below.alloc ?_ (by first | (simp; done) | (simp; omega) | omega) _ | refine Below.drew ?_))⟩, by (try go_num); simp [intOf]; (try omega)⟩
      rw [hs, ← pv_arr_set]; exact (by apply blk_of; (repeat (first | with_reducible exact kB | with_reducible apply blk_drew | with_reducible apply blk_gw | with_reducible apply blk_alloc | with_reducible apply blk_set | ((with_reducible apply blk_other); focus omega))); (first | rfl | simp))
    · obtain rfl : k = ns.length := by omega
      have i1 : ¬ (ns.length : Int) < (ns.length : Int) := by omega
      rw [hX] at kB
      go_wp2_with (first | (go_at_call 12; (first | (refine Calls.mono (gw_at (boolIs (isp_b _ _ _ (by assumption) _ (Cs.to (by with_reducible assumption) (by repeat (first | with_reducible exact Below.refl _ _ | with_reducible assumption | refine bgw ?_ (by first | (simp; done) | (simp; omega) | omega) _ | refine Below.setCell ?_ (by first | exact Nat.le_of_not_lt (by assumption) | (simp; done) | (simp; omega) | omega) _ | refine Below.alloc ?_ (by first | (simp; done) | (simp; omega) | omega) _ | refine Below.drew ?_)))) (b := true) (by assumption))) ?_; rintro e w1 ⟨rfl, q, rfl⟩) | (refine Calls.mono (gw_at (boolIs (isp_b _ _ _ (by assumption) _ (Cs.to (by with_reducible assumption) (by repeat (first | with_reducible exact Below.refl _ _ | with_reducible assumption | refine bgw ?_ (by first | (simp; done) | (simp; omega) | omega) _ | refine Below.setCell ?_ (by first | exact Nat.le_of_not_lt (by assumption) | (simp; done) | (simp; omega) | omega) _ | refine Below.alloc ?_ (by first | (simp; done) | (simp; omega) | omega) _ | refine Below.drew ?_)))) (b := false) (by assumption))) ?_; rintro e w1 ⟨rfl, q, rfl⟩) | (refine Calls.mono (gw_at (isp_b _ _ _ (by assumption) _ (Cs.to (by with_reducible assumption) (by repeat (first | with_reducible exact Below.refl _ _ | with_reducible assumption | refine bgw ?_ (by first | (simp; done) | (simp; omega) | omega) _ | refine Below.setCell ?_ (by first | exact Nat.le_of_not_lt (by assumption) | (simp; done) | (simp; omega) | omega) _ | refine Below.alloc ?_ (by first | (simp; done) | (simp; omega) | omega) _ | refine Below.drew ?_))))) ?_; rintro e w1 ⟨rfl, q, rfl⟩))))
      go_ret
      exact ⟨⟨_, _, rfl, by omega, (pts_of_list kB).to (by repeat (first | with_reducible exact Below.refl _ _ | with_reducible assumption | refine bgw ?_ (by first | (simp; done) | (simp; omega) | omega) _ | refine Below.setCell ?_ (by first | exact Nat.le_of_not_lt (by assumption) | (simp; done) | (simp; omega) | omega) _ | refine Below.alloc ?_ (by first | (simp; done) | (simp; omega) | omega) _ | refine Below.drew ?_))⟩, (by repeat (first | with_reducible exact Below.refl _ _ | with_reducible assumption | refine bgw ?_ (by first | (simp; done) | (simp; omega) | omega) _ | refine Below.setCell ?_ (by first | exact Nat.le_of_not_lt (by assumption) | (simp; done) | (simp; omega) | omega) _ | refine Below.alloc ?_ (by first | (simp; done) | (simp; omega) | omega) _ | refine Below.drew ?_))⟩

end Go.Proofs.Ytdpkhjnjjegobaa
