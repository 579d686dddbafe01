/- Package polygon, the landed code: ConvexHull. -/
import Derived.Test.YtncijpaooiopfaaPgg
import Derived.Test.YtncijpaooiopfaaPgh
import Derived.Test.YtncijpaooiopfaaKi3
import Derived.Lib.SlBuf
set_option linter.unusedVariables false
namespace Go.Proofs.Ytncijpaooiopfaa
open Go.RowKit Fx

theorem blk_all {w : World} {b : Nat} {t : TypeId} (vs : List Value) : ∀ (o : Nat) (c : Array Value), blk w b c t → o + vs.length = c.size → blk (w.setCells b o vs) b (c.toList.take o ++ vs).toArray t := by
  induction vs generalizing w with
  | nil =>
    intro o c h hs
    have : o = c.size := by simpa using hs
    subst this
    refine blk_of h ?_
    apply Array.ext'
    simp [← Array.length_toList, List.take_length]
  | cons v vs ih =>
    intro o c h hs
    rw [World.setCells]
    have hs' : o + 1 + vs.length = (c.setIfInBounds o v).size := by rw [Array.size_setIfInBounds]; simp at hs; omega
    refine blk_of (ih (o + 1) _ (blk_set h) hs') ?_
    have ho : o < c.toList.length := by simp at hs ⊢; omega
    congr 1
    rw [Array.toList_setIfInBounds, List.take_set, List.take_add_one, List.getElem?_eq_getElem ho]
    simp only [Option.toList]
    rw [List.set_append_right _ _ (by simp; omega)]
    rw [List.length_take, Nat.min_eq_left (Nat.le_of_lt ho), Nat.sub_self]
    simp
theorem cpy_run (w : World) (A : Option Addr) (cap dcap B : Nat) (ps : List Pt) (c : Array Value) (h0 : 0 < ps.length) (ha : Pts w A ps) (hb : blk w B c 27) (hc : c.size = ps.length * 2) (ty : TypeId) :
    (Builtin.copy_ #[22, 22] ty #[.slice (some ⟨B, 0, none⟩) ps.length dcap, .slice A ps.length cap]).run Try.prog w = .ok (.int .i64 (ps.length : Int)) (w.setCells B 0 (pv ps)) := by
  obtain ⟨b, off, rfl, -⟩ := pts_open0 ha h0
  have hz : (Go.sizeOf 27).run Try.prog w = .ok 2 w := by kernel_rfl
  have h1 := run_firstCells_some (P := Try.prog) (w := w) 2 ps.length ⟨b, off, none⟩ ps.length cap (pv ps) (pv_length ps) (pts_news ha)
  have h2 := run_storeCells_cells (P := Try.prog) B 0 (pv ps) 0 w (fun j hj => by
      rw [pv_length] at hj
      rw [Nat.zero_add, blk_cell hb, Array.getElem?_eq_getElem (by omega)]; rfl) (fun j hj => blk_free hb _) (pv_one ps)
  simp only [Nat.add_zero] at h2
  simp [Builtin.copy_, run_underlying Try.underlying22, hz, h1, h2, Builtin.lenOf, goInt, show Nat.min ps.length ps.length = ps.length from Nat.min_self _]
theorem below_gb {w w' : World} {B C : Nat} (h : w.grownBy w' (some B)) (hB : C ≤ B) (hC : C ≤ w.heap.size) : Below C w w' :=
  ⟨h.os, h.tape, h.output, h.size, fun k hk => h.block k (by omega) (fun e => by cases e; omega)⟩
theorem Row.below {w w' : World} {b : Nat} {ys : List Pt} {t : TypeId} (h : Row w b ys t) (hb : Below w.heap.size w w') : Row w' b ys t := by
  obtain ⟨c, h1, h2⟩ := h
  exact ⟨c, blk_below hb h1, h2⟩
theorem Row.lt {w : World} {b : Nat} {ys : List Pt} {t : TypeId} (h : Row w b ys t) : b < w.heap.size := older_iff.1 h.old
theorem owns_gb {w w' : World} {G B n : Nat} {e : TypeId} {v : Value} {xs : List Value} (h : w.ownsRow G e 2 v n xs) (hg : w.grownBy w' (some B)) (hB : B < G) : w'.ownsRow G e 2 v n xs := by
  obtain ⟨hl, h0 | ⟨g, cap, cur, hv, hb, hh, hn, hm, hc, ht⟩⟩ := h
  · exact ⟨hl, .inl h0⟩
  · have hh' : blk w g cur e := hh
    exact ⟨hl, .inr ⟨g, cap, cur, hv, hb, blk_grown hg hh' (fun e => by cases e; omega), hn, hm, hc, ht⟩⟩
theorem pop_ne (p : Pt) : ∀ l : List Pt, 0 < l.length → 0 < (pop p l).length
  | [], h => by simp at h
  | [s], _ => by simp [pop]
  | s :: t :: r, _ => by
    unfold pop; split
    · exact pop_ne p (t :: r) (by simp)
    · simp
theorem mono_two {P : List Pt} : (P.length = 0 → (mono P).length = 0) ∧ (0 < P.length → 0 < (mono P).length) ∧ (2 ≤ P.length → 2 ≤ (mono P).length) ∧ (mono P).length ≤ P.length := by
  have key : ∀ (n : Nat) (P : List Pt), P.length = n → (P.length = 0 → (mono P).length = 0) ∧ (0 < P.length → 0 < (mono P).length) ∧ (2 ≤ P.length → 2 ≤ (mono P).length) ∧ (mono P).length ≤ P.length := by
    intro n
    induction n with
    | zero => intro P hl; have : P = [] := List.length_eq_zero_iff.1 hl; subst this; simp [mono]
    | succ n ih =>
      intro P hl
      rcases List.eq_nil_or_concat P with rfl | ⟨Q, p, rfl⟩
      · simp at hl
      · rw [List.concat_eq_append] at *
        obtain ⟨a, b, c, d⟩ := ih Q (by simpa using hl)
        have h1 := pop_ne p (mono Q)
        have h2 := pop_len p (mono Q)
        rw [mono_snoc]
        simp only [List.length_append, List.length_cons, List.length_nil]
        omega
  exact key _ P rfl
theorem tail_rev {l : List Pt} {n : Nat} (h : l.length = n + 1) : l.reverse.take n = l.tail.reverse := by
  match l, h with
  | a :: r, h =>
    simp only [List.reverse_cons, List.tail_cons]
    exact List.take_left' (by simp at h; simp [h])
theorem rev_split {l : List Pt} {n : Nat} (h : l.length = n + 1) : ∃ x, l.reverse = l.tail.reverse ++ [x] := by
  match l, h with
  | a :: r, h => exact ⟨a, by simp⟩

set_option maxRecDepth 100000 in
set_option maxHeartbeats 16000000 in
theorem xhull_b (A : Option Addr) (cap : Nat) (ps : List (Int × Int)) (hl : ps.length ≤ 4611686018427387904) (w : World) (ha : Pts w A ps) (hk : ps.length ≤ cap := by first | omega | decide) : Calls Try.prog 10 #[.slice A ps.length cap] w (HullR w (hullP ps)) := by
  obtain ⟨R, hR⟩ : ∃ R, Hid (hullP ps = R) := ⟨hullP ps, rfl⟩
  rw [hR.out]
  by_cases n1 : ps.length < 1
  focus
    obtain rfl : [] = R := by rw [← hR.out]; unfold hullP; rw [if_pos (.inl n1)]
    have i1 : (ps.length : Int) < 1 := by omega
    clear hR n1
    go_enter Try.func10, Try.ntmps10
    go_wp2_with fail
    exact bodyPost_ret (v := .slice none 0 0) (by simp [results, Try.results10, go_sem]) rfl ⟨⟨_, _, rfl, Nat.le_refl _, by decide, .inl rfl⟩, (by repeat (first | with_reducible exact Below.refl _ _ | with_reducible assumption | refine bgw ?_ (by first | (simp; done) | (simp; omega) | omega) _ | refine Below.setCell ?_ (by first | exact Nat.le_of_not_lt (by assumption) | (simp; done) | (simp; omega) | omega) _ | refine Below.alloc ?_ (by first | (simp; done) | (simp; omega) | omega) _ | refine Below.drew ?_))⟩
  have i1 : ¬ (ps.length : Int) < 1 := by omega
  by_cases n64 : 64 < ps.length
  focus
    obtain rfl : [] = R := by rw [← hR.out]; unfold hullP; rw [if_pos (.inr (.inl n64))]
    have i2 : (64 : Int) < (ps.length : Int) := by omega
    clear hR n1 n64
    go_enter Try.func10, Try.ntmps10
    go_wp2_with fail
    exact bodyPost_ret (v := .slice none 0 0) (by simp [results, Try.results10, go_sem]) rfl ⟨⟨_, _, rfl, Nat.le_refl _, by decide, .inl rfl⟩, (by repeat (first | with_reducible exact Below.refl _ _ | with_reducible assumption | refine bgw ?_ (by first | (simp; done) | (simp; omega) | omega) _ | refine Below.setCell ?_ (by first | exact Nat.le_of_not_lt (by assumption) | (simp; done) | (simp; omega) | omega) _ | refine Below.alloc ?_ (by first | (simp; done) | (simp; omega) | omega) _ | refine Below.drew ?_))⟩
  have i2 : ¬ (64 : Int) < (ps.length : Int) := by omega
  have h0 : 0 < ps.length := by omega
  have cI := fun w' h => xinr_b A cap ps h0 hl hk w' h
  cases hI : allIn ps
  focus
    rw [hI] at cI
    have hn : ¬ ∀ p ∈ ps, inrP p := of_decide_eq_false hI
    obtain rfl : [] = R := by rw [← hR.out]; unfold hullP; rw [if_pos (.inr (.inr hn))]
    clear hR hn hI
    go_enter Try.func10, Try.ntmps10
    go_wp2_with (go_at_call 27; refine Calls.mono (gw_at (cI _ (Pts.to ha (by repeat (first | with_reducible exact Below.refl _ _ | with_reducible assumption | refine bgw ?_ (by first | (simp; done) | (simp; omega) | omega) _ | refine Below.setCell ?_ (by first | exact Nat.le_of_not_lt (by assumption) | (simp; done) | (simp; omega) | omega) _ | refine Below.alloc ?_ (by first | (simp; done) | (simp; omega) | omega) _ | refine Below.drew ?_))))) ?_; rintro e w1 ⟨rfl, q, rfl⟩)
    exact bodyPost_ret (v := .slice none 0 0) (by simp [results, Try.results10, go_sem]) rfl ⟨⟨_, _, rfl, Nat.le_refl _, by decide, .inl rfl⟩, (by repeat (first | with_reducible exact Below.refl _ _ | with_reducible assumption | refine bgw ?_ (by first | (simp; done) | (simp; omega) | omega) _ | refine Below.setCell ?_ (by first | exact Nat.le_of_not_lt (by assumption) | (simp; done) | (simp; omega) | omega) _ | refine Below.alloc ?_ (by first | (simp; done) | (simp; omega) | omega) _ | refine Below.drew ?_))⟩
  rw [hI] at cI
  have hin : ∀ p ∈ ps, inrP p := of_decide_eq_true hI
  have hok : Hid (Okp ps) := ⟨h0, by omega, hin⟩
  have hin2 : Hid (∀ p ∈ ps, inrP p) := hin
  clear hI hin
  obtain ⟨i0, hi, hz0, hz1, hz2⟩ := info_parts info_vec
  go_enter Try.func10, Try.ntmps10
  go_upto_region 4 with (first | (refine wpList_mk rfl _ _ 22 rfl 27 i0 (.agg #[.int .i64 0, .int .i64 0]) #[.int .i64 0, .int .i64 0] rfl 2 16 Try.underlying22 hi hz0 hz1 hz2 _ _ _ _ ps.length ps.length rfl rfl rfl rfl (Nat.le_refl _) (by omega) (by unfold maxLen; omega) ?_) | (go_at_call 27; refine Calls.mono (gw_at (cI _ (Pts.to ha (by repeat (first | with_reducible exact Below.refl _ _ | with_reducible assumption | refine bgw ?_ (by first | (simp; done) | (simp; omega) | omega) _ | refine Below.setCell ?_ (by first | exact Nat.le_of_not_lt (by assumption) | (simp; done) | (simp; omega) | omega) _ | refine Below.alloc ?_ (by first | (simp; done) | (simp; omega) | omega) _ | refine Below.drew ?_))))) ?_; rintro e w1 ⟨rfl, q, rfl⟩))
  refine wp_named ?_
  intro W1 hW
  have kB1 : blk W1 (w.heap.size + q.os.size) (pv (List.replicate ps.length (0, 0))).toArray 27 := by rw [hW]; refine blk_of (c' := _) (by repeat (first | with_reducible exact blk_new _ _ _ | ((with_reducible refine blk_at ?_); (simp; done)) | with_reducible apply blk_alloc | with_reducible apply blk_gw | with_reducible apply blk_drew)) ?_; exact made_pts _
  have hbW1 : Below w.heap.size w W1 := by rw [hW]; exact (by repeat (first | with_reducible exact Below.refl _ _ | with_reducible assumption | refine bgw ?_ (by first | (simp; done) | (simp; omega) | omega) _ | refine Below.setCell ?_ (by first | exact Nat.le_of_not_lt (by assumption) | (simp; done) | (simp; omega) | omega) _ | refine Below.alloc ?_ (by first | (simp; done) | (simp; omega) | omega) _ | refine Below.drew ?_))
  clear hW cI
  have hBw : w.heap.size ≤ w.heap.size + q.os.size := by omega
  generalize w.heap.size + q.os.size = B at *
  have hcpy := cpy_run W1 A cap ps.length B ps _ h0 (Pts.to ha hbW1) kB1 (by simp [pv_length])
  go_upto_region 5 with (at_builtin; refine Lib.wpList_copy_run _ rfl _ _ 22 22 rfl _ _ rfl rfl (hcpy _) ?_)
  refine wp_named ?_
  intro W2 hW
  have kB2 : blk W2 B (pv ps).toArray 27 := by
    rw [hW]
    refine blk_of (blk_all (pv ps) 0 _ kB1 (by simp [pv_length])) ?_
    simp
  have hbW2 : Below w.heap.size w W2 := by rw [hW]; exact Below.trans hbW1 (below_gb (gb_cells _ _ (gb_refl _ _)) hBw hbW1.size)
  clear hW hcpy kB1 hbW1
  have cS := fun w' h => xsort_b B ps.length ps (by omega) w' h
  go_upto_region 6 with (go_at_call 28; refine Calls.mono (cS _ kB2) ?_; rintro e W3 ⟨rfl, kB3, hg3⟩)
  have hbW3 : Below w.heap.size w W3 := Below.trans hbW2 (below_gb hg3 hBw hbW2.size)
  clear cS kB2 hg3 hbW2
  have cC := fun w' (h : Row w' B (srtL ps) 27) => xcompact_b B ps.length (srtL ps) (by rw [srtL_len]; exact Nat.le_refl _) (by omega) w' h
  rw [srtL_len] at cC
  have hDs : Hid ((dd (srtL ps)).Pairwise lexLt) := dd_sorted (srtL_sorted ps)
  have hDm : Hid (∀ x, x ∈ dd (srtL ps) ↔ x ∈ ps) := fun x => dd_mem.trans srtL_mem
  have hDp : 0 < (dd (srtL ps)).length := dd_pos (by rw [srtL_len]; exact h0)
  have hD64 : (dd (srtL ps)).length ≤ ps.length := by have := dd_len (srtL ps); rw [srtL_len] at this; exact this
  generalize dd (srtL ps) = D at *
  go_upto_region 7 with (go_at_call 30; refine Calls.mono (cC _ kB3) ?_; rintro e W4 ⟨rfl, kB4, hg4⟩)
  have hbW4 : Below w.heap.size w W4 := Below.trans hbW3 (below_gb hg4 hBw hbW3.size)
  clear cC kB3 hg4 hbW3
  by_cases c1 : D.length = 1
  · have b1 : ((D.length : Int) == 1) = true := by rw [beq_iff_eq]; omega
    obtain rfl : D = R := by
      obtain ⟨x, rfl⟩ : ∃ x, D = [x] := by
        match D, c1 with
        | [x], _ => exact ⟨x, rfl⟩
      rw [← hR.out]
      exact hull_single hok.out hDm.out
    have hPts := kB4.pts
    clear hDs hDm hR c1
    go_wp2_with fail
    exact bodyPost_ret (v := .slice (some ⟨B, 0, none⟩) D.length ps.length) (by simp [results, Try.results10, go_sem]) rfl ⟨⟨_, _, rfl, hD64, by unfold maxLen; omega, hPts⟩, hbW4⟩
  have b1 : ((D.length : Int) == 1) = false := by rw [beq_eq_false_iff_ne]; omega
  have hRD : Hid (R = (mono D).tail.reverse ++ (mono D.reverse).tail.reverse) := by
    show _ = _
    rw [← hR.out]
    exact (hull_list hok.out hDs.out hDm.out (by omega)).symm
  have hDin : ∀ p ∈ D, inrP p := fun p hp => hin2.out p ((hDm.out p).1 hp)
  have c31 := fun w' h => xchain_b (some ⟨B, 0, none⟩) ps.length D (by omega) hDin w' h
  have c32 := fun w' h => xchain_b (some ⟨B, 0, none⟩) ps.length D.reverse (by rw [List.length_reverse]; omega) (fun p hp => hDin p (List.mem_reverse.1 hp)) w' h
  have cR := fun w' h => xrev_b B ps.length D (by omega) w' h
  obtain ⟨-, -, l1two, l1le⟩ := mono_two (P := D)
  obtain ⟨-, -, l2two, l2le⟩ := mono_two (P := D.reverse)
  rw [List.length_reverse] at c32 l2two l2le
  obtain ⟨n1', hn1⟩ : ∃ n, (mono D).length = n + 1 + 1 := ⟨(mono D).length - 2, by have := l1two (by omega); omega⟩
  obtain ⟨n2', hn2⟩ : ∃ n, (mono D.reverse).length = n + 1 + 1 := ⟨(mono D.reverse).length - 2, by have := l2two (by omega); omega⟩
  obtain ⟨x1, hx1⟩ := rev_split hn1
  have hx2 := tail_rev hn2
  have ht1 : (mono D).tail.reverse.length = n1' + 1 := by simp [hn1]
  have ht2 : (mono D.reverse).tail.reverse.length = n2' + 1 := by simp [hn2]
  rw [hn1] at c31 l1le
  rw [hn2] at c32 l2le
  rw [hx1] at c31
  clear hR hDs hDm hDin l1two l2two hn1 hn2 hok hin2
  generalize (mono D).tail.reverse = T1 at *
  generalize (mono D.reverse).tail.reverse = T2 at *
  generalize (mono D.reverse).reverse = M2 at *
  go_upto_region 10 with (go_at_call 31; refine Calls.mono (c31 _ kB4.pts) ?_; rintro e W5 ⟨⟨v1, rfl, hown1⟩, hb5⟩)
  have kB5 := kB4.below hb5
  have hbW5 : Below w.heap.size w W5 := Below.trans hbW4 (hb5.mono hbW4.size)
  have hBlt := kB4.lt
  clear c31 kB4 hbW4 hb5
  go_upto_region 11 with (go_at_call 32; refine Calls.mono (cR _ kB5) ?_; rintro e W6 ⟨rfl, kB6, hg6⟩)
  have hbW6 : Below w.heap.size w W6 := Below.trans hbW5 (below_gb hg6 hBw hbW5.size)
  have hown2 := owns_gb hown1 hg6 hBlt
  clear cR kB5 hbW5 hg6 hown1
  go_upto_region 12 with (go_at_call 31; refine Calls.mono (c32 _ kB6.pts) ?_; rintro e W7 ⟨⟨v2, rfl, hown3⟩, hb7⟩)
  have hown4 := owns_mono (owns_below hown2 hb7) (show w.heap.size ≤ W4.heap.size by omega)
  have hbW7 : Below w.heap.size w W7 := Below.trans hbW6 (hb7.mono hbW6.size)
  clear c32 kB6 hown2 hb7 hbW6
  obtain ⟨A1, cap1, rfl, -, hcap1, hmax1, -⟩ := owns_ptsL hown4
  obtain ⟨A2, cap2, rfl, hM2, hcap2, hmax2, hP2⟩ := owns_ptsL hown3
  have hownT := owns_pre (ys := [x1]) hown4
  obtain ⟨b2, o2, rfl, -⟩ := pts_open0 hP2 (by omega)
  have hPT : Pts W7 (some ⟨b2, o2, none⟩) T2 := by rw [← hx2]; exact hP2.takeQ _
  have j1 : (0 : Int) ≤ (n1' : Int) + 1 := by omega
  have j2 : (n1' : Int) + 1 ≤ (cap1 : Int) := by omega
  have j3 : (0 : Int) ≤ (n2' : Int) + 1 := by omega
  have j4 : (n2' : Int) + 1 ≤ (cap2 : Int) := by omega
  have j5 : n1' ≤ 64 := by omega
  have j6 : n2' ≤ 64 := by omega
  have hszW := hbW7.size
  clear hown3 hown4 hP2 hx1 hx2 hM2
  refine wp_region_gw_tail 10 (by kernel_rfl) (by kernel_rfl) ?_
  simp only [List.take_succ_cons, List.take_zero, List.drop_succ_cons, List.drop_zero]
  repeat (go_big_quiet_step (fail))
  refine wpQuiet_nil ?_
  intro w1 hw1
  obtain ⟨q2, rfl⟩ := hw1
  go_wp2_with (at_builtin; refine wpList_appQ rfl _ _ 22 rfl w.heap.size 27 i0 (.agg #[.int .i64 0, .int .i64 0]) 16 Try.underlying22 hi hz0 hz1 hz2 rfl _ _ _ rfl (owns_below hownT (by repeat (first | with_reducible exact Below.refl _ _ | with_reducible assumption | refine bgw ?_ (by first | (simp; done) | (simp; omega) | omega) _ | refine Below.setCell ?_ (by first | exact Nat.le_of_not_lt (by assumption) | (simp; done) | (simp; omega) | omega) _ | refine Below.alloc ?_ (by first | (simp; done) | (simp; omega) | omega) _ | refine Below.drew ?_))) _ _ _ T2 rfl (fun e => by cases e) ht2 (hPT.gw _) (by unfold maxLen; omega) (by omega) (by first | (simp; omega) | omega) ?_; intro v' w2 hown5 hb2)
  rw [← pv_append] at hown5
  obtain ⟨A3, cap3, rfl, hlen3, hcap3, hmax3, hP3⟩ := owns_ptsL hown5
  have hRe := hRD.out
  subst hRe
  rw [← hlen3] at *
  exact bodyPost_ret (v := .slice A3 (T1 ++ T2).length cap3) (by simp [results, Try.results10, go_sem]) rfl ⟨⟨_, _, rfl, hcap3, hmax3, hP3⟩, Below.trans (b := gw W7 q2) (by repeat (first | with_reducible exact Below.refl _ _ | with_reducible assumption | refine bgw ?_ (by first | (simp; done) | (simp; omega) | omega) _ | refine Below.setCell ?_ (by first | exact Nat.le_of_not_lt (by assumption) | (simp; done) | (simp; omega) | omega) _ | refine Below.alloc ?_ (by first | (simp; done) | (simp; omega) | omega) _ | refine Below.drew ?_)) hb2⟩

end Go.Proofs.Ytncijpaooiopfaa
