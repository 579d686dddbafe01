/- Contracts of chapter 17's reference: segments, containsCore, Separation, Overlap, ToPoint. -/
import Derived.Test.YtipcbcngedpmkaaGreatDq
import Derived.Test.YtipcbcngedpmkaaGreatCo9
set_option linter.unusedVariables false
namespace Go.Proofs.YtipcbcngedpmkaaGreat
open Go.RowKit Fx

/-- The segments' starts and ends. -/
def stL (l : List Pt) : List Pt := (List.range (nsg l)).map (hp' l)
def enL (l : List Pt) : List Pt := (List.range (nsg l)).map fun i => hp' l (i + 1)
theorem stL_len (l : List Pt) : (stL l).length = nsg l := by unfold stL; rw [List.length_map, List.length_range]
theorem enL_len (l : List Pt) : (enL l).length = nsg l := by unfold enL; rw [List.length_map, List.length_range]
theorem stL_get (l : List Pt) {i : Nat} (h : i < (stL l).length) : (stL l)[i] = hp' l i := by simp [stL]
theorem enL_get (l : List Pt) {i : Nat} (h : i < (enL l).length) : (enL l)[i] = hp' l (i + 1) := by simp [enL]
theorem stL_all {l : List Pt} (h : l.length ≠ 2) (h1 : 1 ≤ l.length) : stL l = l := by
  have hn : nsg l = l.length := by unfold nsg; split <;> omega
  refine List.ext_getElem (by rw [stL_len, hn]) fun i h1 h2 => ?_
  rw [stL_get, hp_get h2]
theorem stL_two (p q : Pt) : stL [p, q] = [p] := rfl
theorem enL_two (p q : Pt) : enL [p, q] = [q] := rfl
theorem enL_take {l : List Pt} {k : Nat} (h : k < nsg l) : (enL l).take (k + 1) = (enL l).take k ++ [hp' l (k + 1)] := by
  have hk : k < (enL l).length := by rw [enL_len]; exact h
  rw [List.take_add_one, List.getElem?_eq_getElem hk, enL_get]; rfl
theorem pts_at {w : World} {A : Option Addr} {l : List (Int × Int)} (h : Pts w A l) (h0 : 0 < l.length) : ∃ b off, A = some ⟨b, off, none⟩ ∧ b < w.heap.size ∧ ∀ w', Below w.heap.size w w' → ∀ i (h : i < l.length), w'.cell? ⟨b, off + i * 2, none⟩ = some (.int .i64 l[i].1) ∧ w'.cell? ⟨b, off + i * 2 + 1, none⟩ = some (.int .i64 l[i].2) := by
  rcases h with h | ⟨b, off, rfl, hc⟩
  · rw [h] at h0; simp at h0
  · have hb : b < w.heap.size := World.block_lt_of_cell? w ⟨b, off + 0 * 2, none⟩ (hc 0 h0).1
    refine ⟨b, off, rfl, hb, fun w' hbl i hi => ?_⟩
    obtain ⟨d0, d1⟩ := hc i hi
    exact ⟨(hbl.cell (p := ⟨b, off + i * 2, none⟩) hb).trans d0, (hbl.cell (p := ⟨b, off + i * 2 + 1, none⟩) hb).trans d1⟩
/-- What segments hands back. -/
def SgmR (w : World) (n : Nat) (S E : List Pt) (e : Ending) (w' : World) : Prop := (∃ A1 c1 A2 c2, e = .returned (.tuple #[.slice A1 n c1, .slice A2 n c2]) ∧ Pts w' A1 S ∧ Pts w' A2 E) ∧ ∃ q, w' = gw w q
theorem val_two {K R : Int} {ps : List Pt} (h : valS K R ps = 0) : K = 2 ↔ ps.length = 2 := by
  have h1 := (valS_zero.1 h).1
  have h2 := val_len h
  omega
theorem hull_ex2 {P : Program} {f : FuncId} {args : Array Value} {w : World} {R : List Pt} (h : Calls P f args w (HullR w R)) : Calls P f args w fun e w' => (∃ A' cap', e = .returned (.slice A' R.length cap') ∧ R.length ≤ cap' ∧ Pts w' A' R) ∧ ∃ q, w' = gw w q :=
  h.mono fun e w' ⟨⟨A', cap', h1, h3, _, h4⟩, h2⟩ => ⟨⟨A', cap', h1, h3, h4⟩, gw_of_below h2⟩

set_option maxHeartbeats 8000000 in
theorem rsgm_b (K R : Int) (A : Option Addr) (cap : Nat) (ps : List (Int × Int)) (px py a : Int) (hl : ps.length ≤ 4611686018427387904) (hv : valS K R ps = 0) (w : World) (hp : Pts w A ps) : Calls Tryz.prog 46 #[.agg #[.int .i64 K, .int .i64 R, .slice A ps.length cap], .agg #[.int .i64 px, .int .i64 py, .int .i64 a]] w (SgmR w (nsg (core K R ps px py a)) (stL (core K R ps px py a)) (enL (core K R ps px py a))) := by
  obtain ⟨i0, hi, hz0, hz1, hz2⟩ := info_parts info_vec
  have cX := fun w' h => hull_ex2 (rvert_b K R A cap ps px py a hl w' h)
  obtain ⟨e1, h1, h8⟩ := core_hp (px := px) (py := py) (a := a) hv
  have h2 : K = 2 ↔ (core K R ps px py a).length = 2 := by rw [e1, List.length_map]; exact val_two hv
  clear e1 hv
  generalize core K R ps px py a = L at *
  by_cases hK : K = 2
  · have hL2 := h2.1 hK
    obtain ⟨p, q, rfl⟩ := len_two hL2
    subst hK
    clear h1 h8 h2 hL2
    go_enter Tryz.func46, Tryz.ntmps46
    go_upto_region 2 with (go_at_call 73; refine Calls.mono (cX _ (Pts.to hp bBel)) ?_; rintro e w1 ⟨⟨A1, c1, rfl, hle, hP1⟩, q1, rfl⟩)
    obtain ⟨b, off, rfl, hb, hc⟩ := pts_at hP1 (by simp)
    have hle2 : 2 ≤ c1 := by simpa using hle
    have k0 : ¬ c1 = 1 := by omega
    have k1 : (1 : Int) ≤ (c1 : Int) := by omega
    have k2 : (2 : Int) ≤ (c1 : Int) := by omega
    clear hle hle2 hP1
    go_wp2_with fail
    refine wp_region_gw (by kernel_rfl) (by kernel_rfl) ?_
    repeat (go_big_quiet_step (fail))
    refine wpQuiet_nil ?_
    intro w1 hw1
    obtain ⟨q, rfl⟩ := hw1
    go_wp2_with fail
    refine bodyPost_ret (v := .tuple #[.slice (some ⟨b, off, none⟩) 1 c1, .slice (some ⟨b, off + 2, none⟩) 1 (c1 - 1)]) (by simp [results, Tryz.results46, go_sem]) rfl ⟨⟨_, _, _, _, rfl, ?_, ?_⟩, gw_of_below bBel⟩
    · refine .inr ⟨b, off, rfl, fun i hi => ?_⟩
      have e0 : i = 0 := by rw [stL_two] at hi; simpa using hi
      subst e0
      exact hc _ bBel 0 (by simp)
    · refine .inr ⟨b, off + 2, rfl, fun i hi => ?_⟩
      have e0 : i = 0 := by rw [enL_two] at hi; simpa using hi
      subst e0
      exact hc _ bBel 1 (by simp)
  · have hL2 : L.length ≠ 2 := fun h => hK (h2.2 h)
    have b0 : (K == 2) = false := by rw [beq_eq_false_iff_ne]; exact hK
    have hn : nsg L = L.length := by unfold nsg; split <;> omega
    obtain ⟨E, hE⟩ : ∃ E, enL L = E := ⟨_, rfl⟩
    have hEl : Hid (E.length = L.length) := by show _ = _; rw [← hE, enL_len, hn]
    have hEs : Hid (∀ k, k < L.length → E.take (k + 1) = E.take k ++ [hp' L (k + 1)]) := fun k h => by rw [← hE]; exact enL_take (by rw [hn]; exact h)
    rw [hn, stL_all hL2 h1, hE]
    clear hE hn hL2 h2 hK
    go_enter Tryz.func46, Tryz.ntmps46
    go_upto_region 2 with (go_at_call 73; refine Calls.mono (cX _ (Pts.to hp bBel)) ?_; rintro e w1 ⟨⟨A1, c1, rfl, hle, hP1⟩, q1, rfl⟩)
    refine wp_named ?_
    intro W hW
    have kB : blk W w.heap.size #[.int .i64 K, .int .i64 R, .slice A ps.length cap] 25 := by rw [hW]; exact bBkn
    have hbW : Below w.heap.size w W := by rw [hW]; exact bBel
    have hP : Pts W A1 L := by rw [hW]; exact Pts.to hP1 bBel
    clear hW hP1 cX
    have hszW := hbW.size
    have okB := blk_older kB
    have ckB_0 : _ = some _ := blk_cell kB 0
    have ckB_1 : _ = some _ := blk_cell kB 1
    have ckB_2 : _ = some _ := blk_cell kB 2
    have fkB_0 := blk_free kB 0
    have fkB_1 := blk_free kB 1
    have fkB_2 := blk_free kB 2
    go_wp2_with fail
    go_loopw [7, 8] (fun o i wr => ∃ k : Nat, k ≤ L.length ∧ i = .int .i64 (k : Int) ∧ wr.ownsRow W.heap.size 27 2 o k (pv (E.take k)) ∧ Below W.heap.size W wr)
      (fun _ i _ => (L.length - intOf i).toNat)
    case atStart => exact ⟨0, by omega, rfl, World.ownsRow_nil _ _ _ 2, by first | exact Below.refl _ _ | exact bBel⟩
    case round =>
      obtain ⟨k, hk, rfl, hown, hbR⟩ := hrel
      have hszR := hbR.size
      by_cases hlt : k < L.length
      · have j0 : (0 : Int) ≤ (k : Int) := by omega
        have j1 : (k : Int) < (L.length : Int) := by omega
        have hmod := Nat.mod_lt (k + 1) (show 0 < L.length by omega)
        have hm : ((k : Int) + 1).tmod (L.length : Int) = (((k + 1) % L.length : Nat) : Int) := next_mod
        have hs : Hid _ := hEs.out k hlt
        rw [← hp_mod L (k + 1)] at hs
        generalize (k + 1) % L.length = nx at *
        rw [hp_get hmod] at hs
        have x0 : (0 : Int) ≤ (nx : Int) := by omega
        have x1 : (nx : Int) < (L.length : Int) := by omega
        obtain ⟨b2, off2, hA2, hc2⟩ := pts_open0 (Pts.to hP hbR) (by omega)
        subst hA2
        obtain ⟨d0, d1⟩ := hc2 nx hmod
        have ob := older_of_cell d0
        clear hc2
        have hs2 : Hid (E.take (k + 1) = E.take k ++ [(L[nx].1, L[nx].2)]) := hs
        clear hs
        generalize L[nx].1 = x at *
        generalize L[nx].2 = y at *
        go_wp2_with (at_builtin; refine wpList_app2 rfl _ _ 23 rfl W.heap.size 27 i0 (.agg #[.int .i64 0, .int .i64 0]) 16 Tryz.underlying23 hi hz0 hz1 hz2 rfl _ _ _ rfl (owns_below hown bBel) _ (.int .i64 x) (.int .i64 y) 27 rfl bBkn rfl rfl (by unfold maxLen; omega) (by omega) (by first | (simp; omega) | omega) ?_; intro v' w2 hown2 hb2 hg2 ho2)
        exact ⟨⟨k + 1, by omega, by go_num, by rw [hs2.out, pv_append]; exact hown2, Below.trans hbR (Below.trans bBel (hb2.mono (by first | omega | (simp; omega))))⟩, by (try go_num); simp [intOf]; (try omega)⟩
      · obtain rfl : k = L.length := by omega
        have j1 : ¬ (L.length : Int) < (L.length : Int) := by omega
        rw [List.take_of_length_le (by rw [hEl.out]; exact Nat.le_refl _)] at hown
        obtain ⟨A5, c5, rfl, e5, hle5, hmx5, hP5⟩ := owns_pts hown
        clear e5
        go_wp2_with fail
        refine bodyPost_ret (v := .tuple #[.slice A1 L.length c1, .slice A5 E.length c5]) (by simp [results, Tryz.results46, go_sem]) rfl ⟨⟨_, _, _, _, by rw [hEl.out], Pts.to hP bBel, Pts.to hP5 bBel⟩, gw_of_below (Below.trans hbW (Below.mono bBel hszW))⟩

set_option maxHeartbeats 8000000 in
theorem rcc_b (K R K2 R2 : Int) (A B_ : Option Addr) (ca cb : Nat) (ps qs : List (Int × Int)) (px py pa qx qy qa : Int) (hl : ps.length ≤ 4611686018427387904) (hm : qs.length ≤ 4611686018427387904) (hv1 : valS K R ps = 0) (hv2 : valS K2 R2 qs = 0) (w : World) (hp : Pts w A ps) (hq : Pts w B_ qs) : Calls Tryz.prog 45 #[.agg #[.int .i64 K, .int .i64 R, .slice A ps.length ca], .agg #[.int .i64 px, .int .i64 py, .int .i64 pa], .agg #[.int .i64 K2, .int .i64 R2, .slice B_ qs.length cb], .agg #[.int .i64 qx, .int .i64 qy, .int .i64 qa]] w fun e w' => e = .returned (.bool (inpol K (core K R ps px py pa) (hp' (core K2 R2 qs qx qy qa) 0))) ∧ Below w.heap.size w w' := by
  have cY := fun w' h => hull_ex2 (rvert_b K2 R2 B_ cb qs qx qy qa hm w' h)
  obtain ⟨e1, -, -⟩ := core_hp (px := px) (py := py) (a := pa) hv1
  obtain ⟨-, g1, -⟩ := core_hp (px := qx) (py := qy) (a := qa) hv2
  by_cases h3 : K = 3
  · have cC := fun x y w' h => rcon_b K R A ca ps px py pa x y hl w' h
    have hI : ∀ x y, conS K R ps px py pa x y = inpol K (core K R ps px py pa) (x, y) := fun x y => by
      rw [e1, ← conS_pol hv1, decide_eq_true h3, Bool.true_and]
    simp only [hI] at cC
    have b1 : (K == 3) = true := by rw [beq_iff_eq]; exact h3
    clear hI e1 h3 hv1 hv2
    generalize core K R ps px py pa = L at *
    generalize core K2 R2 qs qx qy qa = M at *
    rw [hp_get (show 0 < M.length by omega)]
    obtain ⟨u, hu⟩ : ∃ u, Hid (M[0] = u) := ⟨M[0]'(by omega), rfl⟩
    rw [hu.out]
    obtain ⟨x, y⟩ := u
    have cC1 := cC x y
    clear cC
    generalize inpol K L (x, y) = D at *
    have j0 : (0 : Int) < (M.length : Int) := by omega
    go_enter Tryz.func45, Tryz.ntmps45
    go_upto_region 1 with fail
    refine wp_mix 14 [0, 1, 3, 7, 15, 15, 15, 15, 207, 463, 975, 2047, 4095, 8191] [10] [0, 1, 2, 3, 4, 5, 6, 7, 8, 9, 10, 11, 12, 13] (by kernel_rfl) (by kernel_rfl) ?_
    repeat (first | (refine mix_skip (by rfl) (by rfl) (by rfl) (by rfl) ?_) | (refine mix_early (by rfl) (by rfl) (by rfl) ?_; go_big_quiet_step (fail); with_reducible refine wpQuiet_nil ?_) | (refine mix_late (by rfl) (by rfl) (by rfl) ?_; go_big_quiet_step (fail); with_reducible refine wpQuiet_nil ?_) | (refine mix_call (by rfl) (by rfl) (by rfl) ?_; intro pM Qs hQs; go_wp2_with (first | (go_at_call 73; refine Calls.mono (cY _ (Pts.to hq bBel)) ?_; rintro e w1 ⟨⟨A1, c1, rfl, hle, hP1⟩, q1, rfl⟩; obtain ⟨b1, off1, rfl, hc1⟩ := pts_open0 hP1 (by omega); obtain ⟨d0, d1⟩ := hc1 0 (by omega); rw [hu.out, Nat.zero_mul, Nat.add_zero] at d0 d1; have od := older_of_cell d0; clear hc1) | (go_at_call 72; refine Calls.mono (gw_at (cC1 _ (Pts.to hp bBel))) ?_; rintro e w1 ⟨rfl, q2, rfl⟩)); refine hQs _ _ bBel ?_))
    refine mix_end ?_
    intro pE
    simp only [List.drop_succ_cons, List.drop_zero]
    go_wp2_with fail
    go_ret
    exact ⟨rfl, bBel⟩
  · have e2 : ∀ l p, inpol K l p = false := fun l p => by unfold inpol; rw [decide_eq_false h3]; rfl
    rw [e2]
    have b1 : (K == 3) = false := by rw [beq_eq_false_iff_ne]; exact h3
    clear e2 e1 h3 hv1 hv2
    go_enter Tryz.func45, Tryz.ntmps45
    go_upto_region 1 with fail
    refine wp_mix 14 [0, 1, 3, 7, 15, 15, 15, 15, 207, 463, 975, 2047, 4095, 8191] [10] [0, 1, 2, 3, 4, 5, 6, 7, 8, 9, 10, 11, 12, 13] (by kernel_rfl) (by kernel_rfl) ?_
    repeat (first | (refine mix_skip (by rfl) (by rfl) (by rfl) (by rfl) ?_) | (refine mix_early (by rfl) (by rfl) (by rfl) ?_; go_big_quiet_step (fail); with_reducible refine wpQuiet_nil ?_) | (refine mix_late (by rfl) (by rfl) (by rfl) ?_; go_big_quiet_step (fail); with_reducible refine wpQuiet_nil ?_) | (refine mix_call (by rfl) (by rfl) (by rfl) ?_; intro pM Qs hQs; go_wp2_with fail; refine hQs _ _ bBel ?_))
    refine mix_end ?_
    intro pE
    simp only [List.drop_succ_cons, List.drop_zero]
    go_wp2_with fail
    go_ret
    exact ⟨rfl, bBel⟩

end Go.Proofs.YtipcbcngedpmkaaGreat
