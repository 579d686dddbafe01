/- Chapter 21: the walk of SAPPairs. -/
import Derived.Test.YtfhhkabdeajieaaGreatSpX
import Derived.Test.YtfhhkabdeajieaaGreatSpL
import Derived.Test.YtfhhkabdeajieaaGreatBwC
import Derived.Deep.RegionHeld3
set_option linter.unusedVariables false
set_option linter.unusedSimpArgs false
namespace Go.Proofs.YtfhhkabdeajieaaGreat
open Go.RowKit Fx

/-- What the tree holds once an entry has been inserted. -/
theorem insT_step {L c : Bxs} (h : L.Perm c) (hl : L.length < 4096) (e : Int × Bx) : (insT L e.1 e.2).Perm (stepC c e) := by
  rcases hv : e.2.val with _ | _
  · have h1 : insC L e.1 e.2 ≠ 0 := by unfold insC; rw [hv]; simp
    unfold insT
    rw [if_neg h1, stepC_no (.inl hv)]; exact h
  · rcases hk : look L e.1 with _ | x
    · have h1 : insC L e.1 e.2 = 0 := insC_ok hv hk hl
      rw [insT_ok h1, stepC_yes hv fun x hx => look_none.1 hk x (h.mem_iff.2 hx)]
      refine (insL_perm e.1 e.2 L).trans ?_
      exact (h.cons e).trans (List.perm_append_comm (l₁ := [e]))
    · have h1 : insC L e.1 e.2 ≠ 0 := by unfold insC; rw [hv, hk]; simp
      unfold insT
      have h2 : ∃ x ∈ c, x.1 = e.1 := by
        refine Classical.byContradiction fun hn => ?_
        have : look L e.1 = none := look_none.2 fun y hy hh => hn ⟨y, h.mem_iff.1 hy, hh⟩
        rw [hk] at this; cases this
      rw [if_neg h1, stepC_no (.inr h2)]; exact h
theorem prL_cnt {L c : Bxs} (hs : Srt L) (h : L.Perm c) (hd : Dst c) : prL L = prP c :=
  prP_eq hd (prL_srt hs) fun x => mem_prL.trans (InP.congr (fun e => h.mem_iff) x)

set_option maxRecDepth 100000 in
set_option maxHeartbeats 16000000 in
theorem walk_SAPPairs (A : Option Addr) (cap : Nat) (l : List En) (w : World) (ha : Enrs w A l) : Calls Tryz.prog 3 #[.slice A l.length cap] w fun e w' => e = .returned (.bool true) ∧ Below w.heap.size w w' := by
  by_cases h30 : l.length ≤ 30
  rotate_left
  · have h30' : (l.length : Int) > 30 := by omega
    go_enter Tryz.func3, Tryz.ntmps3
    go_wp2_with (go_at_call 4; refine Calls.mono (gw_at (example21_b _)) ?_; rintro e w1 ⟨rfl, q, rfl⟩)
    go_ret
    exact ⟨rfl, bBel⟩
  have h30' : ¬ (l.length : Int) > 30 := by omega
  have hk : Hid (∀ e ∈ l, i64k e.1) := ha.keys
  have hents := ha.ents
  clear ha
  go_enter Tryz.func3, Tryz.ntmps3
  go_wp2_with (go_at_call 5; with_reducible_and_instances refine Calls.mono (new_b _) ?_; rintro e W0 ⟨rfl, kt0, hb0⟩; have hT0 := new_tree kt0; clear kt0)
  go_loopw [4] (fun i wr => ∃ k : Nat, k ≤ l.length ∧ i = .int .i64 (k : Int) ∧ ∃ L S, Hid (L.Perm (cnt (l.take k))) ∧ TreeAt wr w.heap.size L S ∧ Hid (∀ k, S k → w.heap.size ≤ k) ∧ Below w.heap.size w wr) (fun i _ => l.length - (intOf i).toNat)
  case atStart => exact ⟨0, by omega, rfl, [], _, List.Perm.refl _, hT0, (show ∀ k, k = w.heap.size → w.heap.size ≤ k from fun k h => by omega), hb0⟩
  case round =>
    clear hT0 hb0
    obtain ⟨k, hkl, rfl, L, S, hP, hT, hS, hb⟩ := hrel
    have hszR := hb.size
    by_cases hlt : k < l.length
    · obtain ⟨b, off, rfl, hbl, hc0⟩ := ents_open hents (by omega)
      have hc := hidOfL (hc0 k hlt)
      clear hc0
      have hLl : L.length < 4096 := by rw [hP.out.length_eq]; have := cnt_take_len l k; omega
      have hP2 : Hid ((insT L l[k].1 l[k].2).Perm (cnt (l.take (k + 1)))) := by show List.Perm _ _; rw [cnt_take hlt]; exact insT_step hP.out hLl _
      have hik : i64k l[k].1 := hk.out _ (List.getElem_mem hlt)
      clear hP
      generalize l[k] = e at *
      obtain ⟨i, x0, x1, x2, x3⟩ := e
      dsimp only at hc hP2 hik
      obtain ⟨L2, hL2⟩ : ∃ L2, insT L i ⟨x0, x1, x2, x3⟩ = L2 := ⟨_, rfl⟩
      obtain ⟨cd, hcd⟩ : ∃ cd, insC L i ⟨x0, x1, x2, x3⟩ = cd := ⟨_, rfl⟩
      have cI := ins_c w.heap.size L L2 i x0 x1 x2 x3 cd hik hcd hL2
      rw [hL2] at hP2
      clear hL2 hcd hik hk
      have hcellW : ∀ w', Below w.heap.size w w' → Below w.heap.size w w' ∧ older b w' = true ∧ w'.cell? ⟨b, off + k * 5, none⟩ = some (.int .i64 i) ∧ w'.cell? ⟨b, off + k * 5 + 1, none⟩ = some (.int .i64 x0) ∧ w'.cell? ⟨b, off + k * 5 + 2, none⟩ = some (.int .i64 x1) ∧ w'.cell? ⟨b, off + k * 5 + 3, none⟩ = some (.int .i64 x2) ∧ w'.cell? ⟨b, off + k * 5 + 4, none⟩ = some (.int .i64 x3) := fun w' h => ⟨h, hc.out w' h⟩
      obtain ⟨-, o, d0, d1, d2, d3, d4⟩ := hcellW wr hb
      clear hc
      go_wp2_with fail
      go_region_held3 (fun w' => Below w.heap.size w w' ∧ older b w' = true ∧ w'.cell? ⟨b, off + k * 5, none⟩ = some (.int .i64 i) ∧ w'.cell? ⟨b, off + k * 5 + 1, none⟩ = some (.int .i64 x0) ∧ w'.cell? ⟨b, off + k * 5 + 2, none⟩ = some (.int .i64 x1) ∧ w'.cell? ⟨b, off + k * 5 + 3, none⟩ = some (.int .i64 x2) ∧ w'.cell? ⟨b, off + k * 5 + 4, none⟩ = some (.int .i64 x3)) (first | (refine hcellW _ ?_; exact bBel)) ((go_at_call 6; refine turn_useB cI (hT.below bBel) (V := w) bBel hS ?_; intro W2 S2 hT2 hS2 hb2))
      all_goals
        go_wp2_with fail
        exact ⟨⟨k + 1, by omega, by go_num, L2, S2, hP2, hT2.below bBel, hS2, bBel⟩, by (try go_num); simp [intOf]; (try omega)⟩
    · obtain rfl : k = l.length := by omega
      rw [List.take_length] at hP
      obtain ⟨PP, hPP⟩ : ∃ PP, Hid (prP (cnt l) = PP) := ⟨_, rfl⟩
      have hpl : Hid (prL L = PP) := by show _ = _; rw [prL_cnt hT.srt hP.out (cnt_dst l), hPP.out]
      have hPl : PP.length ≤ 1000 := by
        have h1 := (prA_perm (cnt_dst l)).length_eq
        have h2 := enu_len (cnt l) (cnt l).length
        have h3 := cnt_len l
        have h4 : (cnt l).length * (cnt l).length ≤ 30 * 30 := Nat.mul_le_mul (by omega) (by omega)
        rw [enu_all] at h2
        rw [hPP.out] at h1
        omega
      have hentl := hents.to hb
      clear hP hents
      go_wp2_with (first
        | (go_at_call 7; with_reducible_and_instances refine Calls.mono (pairs21_b A cap l (by omega) hk.out _ hentl) ?_; rw [hPP.out]; rintro e W1 ⟨⟨pv1, rfl, hp1⟩, hb1⟩; have hv1 := vw_own hp1; have hz1 := hb1.size; have hbw1 := Below.trans hb (hb1.mono hszR); have hentl1 := hentl.to hb1; have hT1 := hT.below hb1; clear hp1)
        | (go_at_call 10; refine Calls.mono (tref_b _ l (by omega) _ (vw5_ents u_se sz_se (hentl1.to bBel))) ?_; rintro e W2 ⟨⟨rv, rfl, hrv⟩, hb2⟩; have hz2 := hb2.size; have hv2 := hv1.to hb2; have hT2 := hT1.below hb2; have hvr := vw5_own u_re sz_re hrv; have hbw2 := Below.trans hbw1 (hb2.mono hbw1.size); clear hrv)
        | (go_at_call 9; with_reducible_and_instances refine Calls.mono (rprs21_b _ l h30 _ hvr) ?_; rw [hPP.out]; rintro e W3 ⟨⟨rp, rfl, hrp⟩, hb3⟩; have hz3 := hb3.size; have hv3 := hv2.to hb3; have hT3 := hT2.below hb3; have hvp := vw_own hrp; have hbw3 := Below.trans hbw2 (hb3.mono hbw2.size); clear hrp)
        | (go_at_call 8; with_reducible_and_instances refine Calls.mono (eqp21_b _ _ PP PP _ hv3 hvp true (by simp) (by omega)) ?_; rintro e W4 ⟨rfl, hb4⟩; have hz4 := hb4.size; have hv4 := hv3.to hb4; have hT4 := hT3.below hb4; have hbw4 := Below.trans hbw3 (hb4.mono hbw3.size))
        | (go_at_call 11; with_reducible_and_instances refine Calls.mono (pairs_b w.heap.size L S _ hT4) ?_; rw [hpl.out]; rintro e W5 ⟨⟨tp, rfl, htp⟩, hb5⟩; have hz5 := hb5.size; have hv5 := hv4.to hb5; have hvt := vw_own htp; have hbw5 := Below.trans hbw4 (hb5.mono hbw4.size); clear htp)
        | (go_at_call 8; with_reducible_and_instances refine Calls.mono (eqp21_b _ _ PP PP _ hv5 hvt true (by simp) (by omega)) ?_; rintro e W6 ⟨rfl, hb6⟩; have hz6 := hb6.size; have hbw6 := Below.trans hbw5 (hb6.mono hbw5.size))
        | (go_at_call 4; refine Calls.mono (gw_at (example21_b _)) ?_; rintro e w4 ⟨rfl, q4, rfl⟩))
      go_ret
      exact ⟨rfl, Below.trans hbw6 ((below_gw _ _).mono hbw6.size)⟩

end Go.Proofs.YtfhhkabdeajieaaGreat
