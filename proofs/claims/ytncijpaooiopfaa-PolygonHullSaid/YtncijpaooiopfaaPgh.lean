/- Package polygon, the landed code: chain. -/
import Derived.Test.YtncijpaooiopfaaPga
set_option linter.unusedVariables false
namespace Go.Proofs.Ytncijpaooiopfaa
open Go.RowKit Fx

theorem owns_ptsL {w : World} {B : Nat} {e : TypeId} {v : Value} {n : Nat} {ps : List Pt} (h : w.ownsRow B e 2 v n (pv ps)) : ∃ A cap, v = .slice A n cap ∧ ps.length = n ∧ n ≤ cap ∧ cap ≤ maxLen ∧ Pts w A ps := by
  obtain ⟨A, cap, h1, rfl, h3, h4, h5⟩ := owns_pts h
  exact ⟨A, cap, h1, rfl, h3, h4, h5⟩
theorem owns_pre {w : World} {B : Nat} {e : TypeId} {A : Option Addr} {n cap : Nat} {xs ys : List Pt} (h : w.ownsRow B e 2 (.slice A (n + 1 + ys.length) cap) (n + 1 + ys.length) (pv (xs ++ ys))) : w.ownsRow B e 2 (.slice A (n + 1) cap) (n + 1) (pv xs) := by
  obtain ⟨A', cap', h1, h2, h3, h4, h5⟩ := owns_ptsL h
  rw [List.length_append] at h2
  obtain ⟨hl, ⟨h0, -⟩ | ⟨g, capc, cur, hv, hb, hh, hn, hm, hc, ht⟩⟩ := h
  · simp only [Value.slice.injEq] at h0; omega
  · simp only [Value.slice.injEq] at hv
    obtain ⟨rfl, -, rfl⟩ := hv
    refine ⟨by rw [pv_length]; omega, .inr ⟨g, cap, cur, rfl, hb, hh, by omega, hm, hc, ?_⟩⟩
    have e1 : (cur.toList.take ((n + 1 + ys.length) * 2)).take ((n + 1) * 2) = cur.toList.take ((n + 1) * 2) := by rw [List.take_take, Nat.min_eq_left (by omega)]
    rw [← e1, ht, pv_append]
    exact List.take_left' (by rw [pv_length]; omega)
theorem pop_mem (p : Pt) (st : List Pt) {P : List Pt} (h : ∀ x ∈ st, x ∈ P) : ∀ x ∈ pop p st, x ∈ P := fun x hx => h x (pop_sub p st x hx)
theorem mono_mem : ∀ {P : List Pt}, ∀ x ∈ mono P, x ∈ P := by
  have key : ∀ (n : Nat) (P : List Pt), P.length = n → ∀ x ∈ mono P, x ∈ P := by
    intro n
    induction n with
    | zero => intro P hl; have : P = [] := List.length_eq_zero_iff.1 hl; subst this; intro x hx; exact hx
    | succ n ih =>
      intro P hl x hx
      rcases List.eq_nil_or_concat P with rfl | ⟨Q, p, rfl⟩
      · simp at hl
      · rw [List.concat_eq_append] at *
        rw [mono_snoc] at hx
        rcases List.mem_cons.1 hx with rfl | hx
        · simp
        · exact List.mem_append_left _ (ih Q (by simpa using hl) x (pop_sub p _ x hx))
  intro P
  exact key _ P rfl
theorem pop_stop {p s t : Pt} {r : List Pt} (h : 0 < dt t s p) : pop p (s :: t :: r) = s :: t :: r := by unfold pop; rw [if_neg (by omega)]
theorem pop_go {p s t : Pt} {r : List Pt} (h : ¬ 0 < dt t s p) : pop p (s :: t :: r) = pop p (t :: r) := by rw [pop, if_pos (by omega)]
theorem pop_short {p : Pt} {st : List Pt} (h : st.length < 2) : pop p st = st := by
  match st, h with
  | [], _ => rfl
  | [s], _ => rfl
theorem pop_len (p : Pt) : ∀ st : List Pt, (pop p st).length ≤ st.length
  | [] => Nat.le_refl _
  | [s] => Nat.le_refl _
  | s :: t :: r => by
    have := pop_len p (t :: r)
    unfold pop; split
    · simp at this ⊢; omega
    · simp

set_option maxRecDepth 100000 in
set_option maxHeartbeats 16000000 in
theorem xchain_b (A : Option Addr) (cap : Nat) (ps : List Pt) (hl : ps.length ≤ 64) (hin : ∀ p ∈ ps, inrP p) (w : World) (ha : Pts w A ps) : Calls Try.prog 31 #[.slice A ps.length cap] w fun e w' => (∃ v, e = .returned v ∧ w'.ownsRow w.heap.size 27 2 v (mono ps).length (pv (mono ps).reverse)) ∧ Below w.heap.size w w' := by
  obtain ⟨R, hR⟩ : ∃ R, Hid (mono ps = R) := ⟨mono ps, rfl⟩
  rw [hR.out]
  have hin2 : Hid (∀ p ∈ ps, inrP p) := hin
  clear hin
  go_enter Try.func31, Try.ntmps31
  go_wp2_with fail
  go_loopw [3, 9] (fun c i wr => ∃ (k L : Nat), k ≤ ps.length ∧ i = .int .i64 (k : Int) ∧ L ≤ k ∧ wr.ownsRow w.heap.size 27 2 c L (pv (mono (ps.take k)).reverse) ∧ Below w.heap.size w wr)
    (fun _ i _ => (ps.length - intOf i).toNat)
  case atStart => exact ⟨0, 0, by omega, rfl, by omega, World.ownsRow_nil _ _ _ _, Below.refl _ _⟩
  case round =>
    obtain ⟨k, L0, hk, rfl, hLk, hown, hbR⟩ := hrel
    have hszR := hbR.size
    obtain ⟨A0, cap0, rfl, hl0, hcap0, hmax0, hP0⟩ := owns_ptsL hown
    rw [List.length_reverse] at hl0
    by_cases hlt : k < ps.length
    · have i0 : (0 : Int) ≤ (k : Int) := by omega
      have i1 : (k : Int) < (ps.length : Int) := by omega
      obtain ⟨b, off, rfl, hc⟩ := pts_open0 (Pts.to ha hbR) (by omega)
      obtain ⟨d0, d1⟩ := hc k hlt
      have ob := older_of_cell d0
      have hpi : Hid (inrP ps[k]) := hin2.out _ (List.getElem_mem hlt)
      have hst : Hid (mono (ps.take (k + 1)) = ps[k] :: pop ps[k] (mono (ps.take k))) := by
        show _ = _
        rw [← List.take_append_getElem hlt, mono_snoc]
      have hm0 : Hid (∀ x ∈ mono (ps.take k), inrP x) := fun x hx => hin2.out x (List.mem_of_mem_take (mono_mem x hx))
      clear hc hP0
      generalize mono (ps.take k) = st0 at *
      generalize ps[k] = pk at *
      obtain ⟨px, py⟩ := pk
      dsimp only at d0 d1
      go_wp2_with fail
      refine wp_named ?_
      intro X hX
      have kP : blk X wr.heap.size #[.int .i64 px, .int .i64 py] 27 := by rw [hX]; exact (by repeat (first | with_reducible exact blk_new _ _ _ | ((with_reducible refine blk_at ?_); (simp; done)) | with_reducible apply blk_alloc | with_reducible apply blk_gw | with_reducible apply blk_drew))
      have hownX : X.ownsRow w.heap.size 27 2 (.slice A0 L0 cap0) L0 (pv st0.reverse) := by rw [hX]; exact owns_below hown (by repeat (first | with_reducible exact Below.refl _ _ | with_reducible assumption | refine bgw ?_ (by first | (simp; done) | (simp; omega) | omega) _ | refine Below.setCell ?_ (by first | exact Nat.le_of_not_lt (by assumption) | (simp; done) | (simp; omega) | omega) _ | refine Below.alloc ?_ (by first | (simp; done) | (simp; omega) | omega) _ | refine Below.drew ?_))
      have hbX : Below w.heap.size w X := by rw [hX]; exact (by repeat (first | with_reducible exact Below.refl _ _ | with_reducible assumption | refine bgw ?_ (by first | (simp; done) | (simp; omega) | omega) _ | refine Below.setCell ?_ (by first | exact Nat.le_of_not_lt (by assumption) | (simp; done) | (simp; omega) | omega) _ | refine Below.alloc ?_ (by first | (simp; done) | (simp; omega) | omega) _ | refine Below.drew ?_))
      clear hX hown d0 d1 ob hbR
      have hszX := hbX.size
      go_loopw [3, 6] (fun c n wx => ∃ (st : List Pt) (L : Nat) (Ac : Option Addr) (capc : Nat), c = .slice Ac L capc ∧ n = .int .i64 (L : Int) ∧ L ≤ k ∧ Hid (st.length = L ∧ pop (px, py) st = pop (px, py) st0 ∧ ∀ x ∈ st, inrP x) ∧ X.ownsRow w.heap.size 27 2 (.slice Ac L capc) L (pv st.reverse) ∧ ∃ q, wx = gw X q)
        (fun _ n _ => (intOf n).toNat)
      case atStart => exact ⟨st0, L0, A0, cap0, rfl, rfl, hLk, ⟨hl0, rfl, hm0.out⟩, hownX, ⟨⟨X.drawn, #[]⟩, (gw_zero X).symm⟩⟩
      case round =>
        obtain ⟨st, L, Ac, capc, rfl, rfl, hLk2, hS, hownS, p, rfl⟩ := hrel
        clear hownX
        obtain ⟨A1, c1, e, hls, hcapc, hmaxc, hPs⟩ := owns_ptsL hownS
        simp only [Value.slice.injEq] at e
        obtain ⟨rfl, -, rfl⟩ := e
        have kP2 := blk_gw (p := p) kP
        have okP2 := blk_older kP2
        have ckP2_0 : _ = some _ := blk_cell kP2 0
        have ckP2_1 : _ = some _ := blk_cell kP2 1
        have fkP2_0 := blk_free kP2 0
        have fkP2_1 := blk_free kP2 1
        by_cases h2 : 2 ≤ L
        · obtain ⟨m, rfl⟩ : ∃ m, L = m + 2 := ⟨L - 2, by omega⟩
          obtain ⟨s, t, r, rfl⟩ : ∃ s t r, st = s :: t :: r := by
            have := hS.out.1
            match st, this with
            | s :: t :: r, _ => exact ⟨s, t, r, rfl⟩
          have hrl : r.length = m := by have := hS.out.1; simpa using this
          have hrev : (s :: t :: r).reverse = r.reverse ++ [t, s] := by simp
          rw [hrev] at hPs hownS hls
          have q2 : (2 : Int) ≤ (m : Int) + 2 := by omega
          have m0 : (0 : Int) ≤ (m : Int) := by omega
          have m1 : (m : Int) < (m : Int) + 2 := by omega
          have m2 : (m : Int) + 1 < (m : Int) + 2 := by omega
          have m3 : (0 : Int) ≤ (m : Int) + 1 := by omega
          have m4 : (m : Int) + 1 ≤ (capc : Int) := by omega
          have m5 : (m : Int) + 1 ≤ (m : Int) + 2 := by omega
          obtain ⟨bc, oc, rfl, hcc⟩ := pts_open0 (hPs.gw p) (by simp)
          have ct := hcc m (by simp; omega)
          have cs := hcc (m + 1) (by simp; omega)
          have e1 : (r.reverse ++ [t, s])[m]'(by simp; omega) = t := by
            rw [List.getElem_append_right (by simp; omega)]; simp [hrl]
          have e2 : (r.reverse ++ [t, s])[m + 1]'(by simp; omega) = s := by
            rw [List.getElem_append_right (by simp; omega)]; simp [hrl]
          rw [e1] at ct
          rw [e2] at cs
          obtain ⟨ct0, ct1⟩ := ct
          obtain ⟨cs0, cs1⟩ := cs
          have oc2 := older_of_cell ct0
          have it := hS.out.2.2 t (by simp)
          have is := hS.out.2.2 s (by simp)
          have hO := or3_dt it is hpi.out
          have cO : ∀ w', Calls Try.prog 34 #[.agg #[.int .i64 t.1, .int .i64 t.2], .agg #[.int .i64 s.1, .int .i64 s.2], .agg #[.int .i64 px, .int .i64 py]] w' fun e w'' => e = .returned (.int .i64 (or3 t s (px, py))) ∧ Below w'.heap.size w' w'' := fun w' => orient_b _ _ _ _ _ _ w'
          have hstop : or3 t s (px, py) = 1 → Hid (pop (px, py) st0 = s :: t :: r) := fun g => by
            show _ = _
            rw [← hS.out.2.1]
            exact pop_stop (sgn_eq1.1 (by rw [← hO]; exact g))
          have hgo : or3 t s (px, py) ≠ 1 → Hid ((t :: r).length = m + 1 ∧ pop (px, py) (t :: r) = pop (px, py) st0 ∧ ∀ x ∈ t :: r, inrP x) := fun g => by
            refine ⟨by simp [hrl], ?_, fun x hx => hS.out.2.2 x (List.mem_cons_of_mem _ hx)⟩
            rw [← hS.out.2.1]
            exact (pop_go (fun h => g (by rw [hO]; exact sgn_eq1.2 h))).symm
          clear hO it is e1 e2 hcc hS hls
          generalize or3 t s (px, py) = O at *
          obtain ⟨tx, ty⟩ := t
          obtain ⟨sx, sy⟩ := s
          dsimp only at ct0 ct1 cs0 cs1 cO
          by_cases c : O = 1
          · have hfin := hstop c
            have b1 : (O != 1) = false := by rw [bne_eq_false_iff_eq]; exact c
            clear hstop hgo c
            have hownF : X.ownsRow w.heap.size 27 2 (.slice (some ⟨bc, oc, none⟩) (m + 2) capc) (m + 2) (pv ((sx, sy) :: (tx, ty) :: r).reverse) := by rw [hrev]; exact hownS
            have hnew : Hid (mono (ps.take (k + 1)) = (px, py) :: (sx, sy) :: (tx, ty) :: r) := by show _ = _; rw [hst.out, hfin.out]
            clear hrev hrl hst hfin hm0 hin2 hR hpi hownS
            obtain ⟨i0', hi, hz0, hz1, hz2⟩ := info_parts info_vec
            go_wp2_with fail
            refine wp_region_gw (by kernel_rfl) (by kernel_rfl) ?_
            repeat (go_big_quiet_step ((first | (go_at_call 34; with_reducible_and_instances exact gw_call (cO _)))))
            refine wpQuiet_nil ?_
            intro w1 hw1
            obtain ⟨q, rfl⟩ := hw1
            go_wp2_with (at_builtin; refine wpList_app2 rfl _ _ 22 rfl w.heap.size 27 i0' (.agg #[.int .i64 0, .int .i64 0]) 16 Try.underlying22 hi hz0 hz1 hz2 rfl _ _ _ rfl (owns_below hownF (by repeat (first | with_reducible exact Below.refl _ _ | with_reducible assumption | refine bgw ?_ (by first | (simp; done) | (simp; omega) | omega) _ | refine Below.setCell ?_ (by first | exact Nat.le_of_not_lt (by assumption) | (simp; done) | (simp; omega) | omega) _ | refine Below.alloc ?_ (by first | (simp; done) | (simp; omega) | omega) _ | refine Below.drew ?_))) _ (.int .i64 px) (.int .i64 py) 27 rfl (by repeat (first | with_reducible exact blk_new _ _ _ | ((with_reducible refine blk_at ?_); (simp; done)) | with_reducible apply blk_alloc | with_reducible apply blk_gw | with_reducible apply blk_drew)) rfl rfl (by unfold maxLen; omega) (by omega) (by first | (simp; omega) | omega) ?_; intro v' w2 hown2 hb2 hg2 ho2)
            exact ⟨⟨k + 1, (m + 2) + 1, by omega, by go_num, by omega, by rw [hnew.out, List.reverse_cons, pv_append]; exact hown2, Below.trans (b := gw X p) (by repeat (first | with_reducible exact Below.refl _ _ | with_reducible assumption | refine bgw ?_ (by first | (simp; done) | (simp; omega) | omega) _ | refine Below.setCell ?_ (by first | exact Nat.le_of_not_lt (by assumption) | (simp; done) | (simp; omega) | omega) _ | refine Below.alloc ?_ (by first | (simp; done) | (simp; omega) | omega) _ | refine Below.drew ?_)) (Below.trans (by repeat (first | with_reducible exact Below.refl _ _ | with_reducible assumption | refine bgw ?_ (by first | (simp; done) | (simp; omega) | omega) _ | refine Below.setCell ?_ (by first | exact Nat.le_of_not_lt (by assumption) | (simp; done) | (simp; omega) | omega) _ | refine Below.alloc ?_ (by first | (simp; done) | (simp; omega) | omega) _ | refine Below.drew ?_)) hb2)⟩, by (try go_num); simp [intOf]; (try omega)⟩
          · have hg := hgo c
            have b1 : (O != 1) = true := by rw [bne_iff_ne]; exact c
            have hown2 : X.ownsRow w.heap.size 27 2 (.slice (some ⟨bc, oc, none⟩) (m + 1) capc) (m + 1) (pv ((tx, ty) :: r).reverse) := by
              rw [List.reverse_cons]
              exact owns_pre (ys := [(sx, sy)]) (by simpa using hownS)
            clear hstop hgo c hrev hrl
            go_wp2_with fail
            refine wp_region_gw (by kernel_rfl) (by kernel_rfl) ?_
            repeat (go_big_quiet_step ((first | (go_at_call 34; with_reducible_and_instances exact gw_call (cO _)))))
            refine wpQuiet_nil ?_
            intro w1 hw1
            obtain ⟨q, rfl⟩ := hw1
            go_wp2_with fail
            exact ⟨⟨(tx, ty) :: r, m + 1, _, capc, rfl, by go_num, by omega, hg, hown2, gw_gw _ _ _⟩, by (try go_num); simp [intOf]; (try omega)⟩
        · have hnew : Hid (mono (ps.take (k + 1)) = (px, py) :: st) := by
            show _ = _
            rw [hst.out, ← hS.out.2.1, pop_short (by have := hS.out.1; omega)]
          have hownF := hownS
          have q2 : ¬ (2 : Int) ≤ (L : Int) := by omega
          have q3 : decide ((2 : Int) ≤ (L : Int)) = false := decide_eq_false q2
          clear hst hm0 hin2 hR hpi hS hownS
          obtain ⟨i0', hi, hz0, hz1, hz2⟩ := info_parts info_vec
          go_wp2_with fail
          refine wp_region_gw (by kernel_rfl) (by kernel_rfl) ?_
          repeat (go_big_quiet_step ((first | (go_at_call 34; with_reducible_and_instances exact gw_call (orient_b _ _ _ _ _ _ _)))))
          refine wpQuiet_nil ?_
          intro w1 hw1
          obtain ⟨q, rfl⟩ := hw1
          go_wp2_with (at_builtin; refine wpList_app2 rfl _ _ 22 rfl w.heap.size 27 i0' (.agg #[.int .i64 0, .int .i64 0]) 16 Try.underlying22 hi hz0 hz1 hz2 rfl _ _ _ rfl (owns_below hownF (by repeat (first | with_reducible exact Below.refl _ _ | with_reducible assumption | refine bgw ?_ (by first | (simp; done) | (simp; omega) | omega) _ | refine Below.setCell ?_ (by first | exact Nat.le_of_not_lt (by assumption) | (simp; done) | (simp; omega) | omega) _ | refine Below.alloc ?_ (by first | (simp; done) | (simp; omega) | omega) _ | refine Below.drew ?_))) _ (.int .i64 px) (.int .i64 py) 27 rfl (by repeat (first | with_reducible exact blk_new _ _ _ | ((with_reducible refine blk_at ?_); (simp; done)) | with_reducible apply blk_alloc | with_reducible apply blk_gw | with_reducible apply blk_drew)) rfl rfl (by unfold maxLen; omega) (by omega) (by first | (simp; omega) | omega) ?_; intro v' w2 hown2 hb2 hg2 ho2)
          exact ⟨⟨k + 1, L + 1, by omega, by go_num, by omega, by rw [hnew.out, List.reverse_cons, pv_append]; exact hown2, Below.trans (b := gw X p) (by repeat (first | with_reducible exact Below.refl _ _ | with_reducible assumption | refine bgw ?_ (by first | (simp; done) | (simp; omega) | omega) _ | refine Below.setCell ?_ (by first | exact Nat.le_of_not_lt (by assumption) | (simp; done) | (simp; omega) | omega) _ | refine Below.alloc ?_ (by first | (simp; done) | (simp; omega) | omega) _ | refine Below.drew ?_)) (Below.trans (by repeat (first | with_reducible exact Below.refl _ _ | with_reducible assumption | refine bgw ?_ (by first | (simp; done) | (simp; omega) | omega) _ | refine Below.setCell ?_ (by first | exact Nat.le_of_not_lt (by assumption) | (simp; done) | (simp; omega) | omega) _ | refine Below.alloc ?_ (by first | (simp; done) | (simp; omega) | omega) _ | refine Below.drew ?_)) hb2)⟩, by (try go_num); simp [intOf]; (try omega)⟩
    · obtain rfl : k = ps.length := by omega
      have i1 : ¬ (ps.length : Int) < (ps.length : Int) := by omega
      have hL : L0 = R.length := by rw [List.take_length, hR.out] at hl0; exact hl0.symm
      subst hL
      have hown2 : wr.ownsRow w.heap.size 27 2 (.slice A0 R.length cap0) R.length (pv R.reverse) := by rw [List.take_length, hR.out] at hown; exact hown
      clear hown hP0 hR hl0
      go_wp2_with fail
      exact bodyPost_ret (v := .slice A0 R.length cap0) (by simp [results, Try.results31, go_sem]) rfl ⟨⟨_, rfl, hown2⟩, hbR⟩

end Go.Proofs.Ytncijpaooiopfaa
