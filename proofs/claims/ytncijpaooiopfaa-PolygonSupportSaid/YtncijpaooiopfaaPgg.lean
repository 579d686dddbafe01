/- Package polygon, the landed code: slices.Compact at an own row of points: the walk. -/
import Derived.Test.YtncijpaooiopfaaPgf
set_option linter.unusedVariables false
namespace Go.Proofs.Ytncijpaooiopfaa
open Go.RowKit Fx

set_option maxRecDepth 100000 in
set_option maxHeartbeats 16000000 in
theorem xcompact_b (B cap : Nat) (ps : List Pt) (hk : ps.length ≤ cap) (hc64 : cap ≤ 64) (w : World) (h : Row w B ps 27) : Calls Try.prog 30 #[.slice (some ⟨B, 0, none⟩) ps.length cap] w fun e w' => e = .returned (.slice (some ⟨B, 0, none⟩) (dd ps).length cap) ∧ Row w' B (dd ps) 27 ∧ w.grownBy w' (some B) := by
  obtain ⟨R, hR⟩ : ∃ R, Hid (dd ps = R) := ⟨_, rfl⟩
  rw [hR.out]
  by_cases n2 : ps.length < 2
  focus
    obtain rfl : ps = R := by
      rw [← hR.out]
      match ps, n2 with
      | [], _ => rfl
      | [a], _ => rfl
    have n2' : (ps.length : Int) < 2 := by omega
    clear hR n2
    go_enter Try.func30, Try.ntmps30
    go_wp2_with fail
    exact bodyPost_ret (v := .slice (some ⟨B, 0, none⟩) ps.length cap) (by simp [results, Try.results30, go_sem]) rfl ⟨rfl, h, gb_refl _ _⟩
  have n2' : ¬ (ps.length : Int) < 2 := by omega
  go_enter Try.func30, Try.ntmps30
  go_wp2_with fail
  go_loopw [3] (fun i wr => ∃ k : Nat, k + 1 ≤ ps.length ∧ i = .int .i64 ((k : Int) + 1) ∧ Hid (dd (ps.take (k + 1)) = ps.take (k + 1)) ∧ ∃ p, wr = gw w p)
    (fun i _ => (ps.length - intOf i).toNat)
  case atStart => exact ⟨0, by omega, rfl, by
    match ps, n2 with
    | a :: r, _ => rfl, ⟨⟨w.drawn, #[]⟩, (gw_zero w).symm⟩⟩
  case round =>
    obtain ⟨k, hk1, rfl, hdd, p, rfl⟩ := hrel
    have kc : k + 1 ≤ 64 := by omega
    by_cases hlt : k + 1 < ps.length
    · have i0 : (0 : Int) ≤ (k : Int) := by omega
      have i1 : (k : Int) + 1 < (ps.length : Int) := by omega
      have i2 : (k : Int) < (ps.length : Int) := by omega
      have i3 : (0 : Int) ≤ (k : Int) + 1 := by omega
      have i5 : (k : Int) + 1 ≤ (cap : Int) := by omega
      have i6 : (k : Int) + 1 ≤ (ps.length : Int) := by omega
      have i7 : (ps.length : Int) ≤ (cap : Int) := by omega
      have i4 : IntKind.i64.wrap ((k : Int) + 1) = (k : Int) + 1 := by rw [IntKind.wrap_i64]; omega
      have hP : Pts (gw w p) (some ⟨B, 0, none⟩) ps := h.pts.gw p
      obtain ⟨b', off', hE, hcell⟩ := pts_open0 hP (by omega)
      cases hE
      have d01 := hcell k (by omega)
      have f01 := hcell (k + 1) hlt
      rw [Nat.zero_add] at d01 f01
      obtain ⟨d0, d1⟩ := d01
      obtain ⟨f0, f1⟩ := f01
      have ob := older_of_cell d0
      have htk := dd_take (ps := ps) (k := k + 1) (by omega) hlt
      have htk2 : Hid (dd (ps.take (k + 1 + 1)) = if ps[k] = ps[k + 1] then dd (ps.take (k + 1)) else dd (ps.take (k + 1)) ++ [ps[k + 1]]) := htk
      have hsn : Hid (ps.take (k + 1 + 1) = ps.take (k + 1) ++ [ps[k + 1]]) := (List.take_append_getElem hlt).symm
      clear htk hcell
      obtain ⟨xk, hxk⟩ : ∃ x, Hid (ps[k].1 = x) := ⟨ps[k].1, rfl⟩
      obtain ⟨yk, hyk⟩ : ∃ x, Hid (ps[k].2 = x) := ⟨ps[k].2, rfl⟩
      obtain ⟨xn, hxn⟩ : ∃ x, Hid (ps[k + 1].1 = x) := ⟨ps[k + 1].1, rfl⟩
      obtain ⟨yn, hyn⟩ : ∃ x, Hid (ps[k + 1].2 = x) := ⟨ps[k + 1].2, rfl⟩
      rw [hxk.out] at d0
      rw [hyk.out] at d1
      rw [hxn.out] at f0
      rw [hyn.out] at f1
      by_cases c : xn = xk ∧ yn = yk
      rotate_left
      · have hg : Hid (dd (ps.take (k + 1 + 1)) = ps.take (k + 1 + 1)) := by
          show _ = _
          rw [htk2.out, if_neg (fun e => c ⟨by rw [← hxn.out, ← hxk.out, e], by rw [← hyn.out, ← hyk.out, e]⟩), hdd.out, hsn.out]
        have hc2 : ((xn == xk) = true ∧ (yn == yk) = false) ∨ (xn == xk) = false := by
          by_cases c1 : xn = xk
          · exact .inl ⟨by rw [beq_iff_eq]; exact c1, by rw [beq_eq_false_iff_ne]; exact fun c2 => c ⟨c1, c2⟩⟩
          · exact .inr (by rw [beq_eq_false_iff_ne]; exact c1)
        clear hdd htk2 hsn c hxk hyk hxn hyn
        rcases hc2 with ⟨b1, b2⟩ | b1
        all_goals
          go_wp2_with fail
          refine wp_region_gw (by kernel_rfl) (by kernel_rfl) ?_
          repeat (go_big_quiet_step (fail))
          refine wpQuiet_nil ?_
          intro w1 hw1
          obtain ⟨q, rfl⟩ := hw1
          go_wp2_with fail
          exact ⟨⟨k + 1, by omega, by go_num, hg, gw_gw _ _ _⟩, by (try go_num); simp [intOf]; (try omega)⟩
      · have b1 : (xn == xk) = true := by rw [beq_iff_eq]; exact c.1
        have b2 : (yn == yk) = true := by rw [beq_iff_eq]; exact c.2
        have hg : Hid (dd (ps.take (k + 1 + 1)) = ps.take (k + 1)) := by
          show _ = _
          rw [htk2.out, if_pos (Prod.ext (by rw [hxk.out, hxn.out, c.1]) (by rw [hyk.out, hyn.out, c.2])), hdd.out]
        clear hdd htk2 hsn c hxk hyk hxn hyn
        go_wp2_with fail
        refine wp_region_gw (by kernel_rfl) (by kernel_rfl) ?_
        repeat (go_big_quiet_step (fail))
        refine wpQuiet_nil ?_
        intro w1 hw1
        obtain ⟨q, rfl⟩ := hw1
        go_wp2_with fail
        clear d0 d1 f0 f1 ob hP b1 b2 i0 i1 i2 i3 i4 i5 i6 hk1
        obtain ⟨N, hN⟩ : ∃ N, Hid (ps.length - (k + 1) = N) := ⟨ps.length - (k + 1), rfl⟩
        rw [hN.out]
        obtain ⟨hN2, hN3⟩ : k + 1 + N ≤ ps.length ∧ ps.length ≤ k + 1 + N := by have := hN.out; omega
        go_loopw [3, 5] (fun a b wr => ∃ (m j : Nat) (xs : List Pt), a = .int .i64 (m : Int) ∧ b = .int .i64 ((j : Int) + 1) ∧ j + 1 ≤ N ∧ 1 ≤ m ∧ m ≤ k + 1 + j ∧ Hid (xs.length = ps.length ∧ xs.take m = dd (ps.take (k + 1 + (j + 1))) ∧ ∀ i, k + 1 + j ≤ i → xs[i]? = ps[i]?) ∧ Row wr B xs 27 ∧ w.grownBy wr (some B))
          (fun _ b _ => (N - intOf b).toNat)
        case atStart => exact ⟨k + 1, 0, ps, by go_num, rfl, by omega, by omega, by omega, ⟨rfl, hg.out.symm, fun i _ => rfl⟩, Row.gw (Row.gw h), gb_gw (gb_gw (gb_refl _ _))⟩
        case round =>
          obtain ⟨m, j, xs, rfl, rfl, hj, hm1, hm2, hxs, hrow, hgb⟩ := hrel
          have m0 : (0 : Int) ≤ (m : Int) := by omega
          have m1 : (m : Int) < (ps.length : Int) := by omega
          have m2 : (m : Int) ≤ (ps.length : Int) := by omega
          have m3 : (m : Int) ≤ (cap : Int) := by omega
          have j64 : j ≤ 64 := by omega
          have hml : m < ps.length := by omega
          have hlx : Hid (xs.length = ps.length) := hxs.out.1
          generalize wr = V at *
          have oV := hrow.old
          by_cases hjl : j + 1 < N
          · have j0 : (0 : Int) ≤ (j : Int) := by omega
            have j1 : (j : Int) + 1 < (N : Int) := by omega
            have j2 : (j : Int) < (N : Int) := by omega
            have j3 : (0 : Int) ≤ (j : Int) + 1 := by omega
            have j4 : IntKind.i64.wrap ((j : Int) + 1) = (j : Int) + 1 := by rw [IntKind.wrap_i64]; omega
            have hix : k + 1 + (j + 1) < xs.length := by rw [hlx.out]; omega
            obtain ⟨d0, d1⟩ := hrow.at (i := k + 1 + j) (by omega)
            obtain ⟨f0, f1⟩ := hrow.at (i := k + 1 + (j + 1)) hix
            obtain ⟨g0, g1⟩ := hrow.at (i := m) (by rw [hlx.out]; exact hml)
            have fm0 := hrow.free (m * 2)
            have fm1 := hrow.free (m * 2 + 1)
            have e1 : xs[k + 1 + j]'(by omega) = ps[k + 1 + j]'(by omega) := by
              have := hxs.out.2.2 (k + 1 + j) (by omega)
              rw [List.getElem?_eq_getElem (by omega), List.getElem?_eq_getElem (by omega)] at this
              exact Option.some.inj this
            have e2 : xs[k + 1 + (j + 1)] = ps[k + 1 + (j + 1)]'(by omega) := by
              have := hxs.out.2.2 (k + 1 + (j + 1)) (by omega)
              rw [List.getElem?_eq_getElem (by omega), List.getElem?_eq_getElem (by omega)] at this
              exact Option.some.inj this
            have htk := dd_take (ps := ps) (k := k + 1 + (j + 1)) (by omega) (by omega)
            have htk2 : Hid (dd (ps.take (k + 1 + (j + 1 + 1))) = if xs[k + 1 + j] = xs[k + 1 + (j + 1)] then dd (ps.take (k + 1 + (j + 1))) else dd (ps.take (k + 1 + (j + 1))) ++ [xs[k + 1 + (j + 1)]]) := by
              show _ = _
              rw [e1, e2]
              exact htk
            rw [show (k + 1 + j) * 2 = (k + 1) * 2 + j * 2 from by omega] at d0 d1
            rw [show (k + 1 + (j + 1)) * 2 = (k + 1) * 2 + (j + 1) * 2 from by omega] at f0 f1
            clear e1 e2 htk
            generalize xs[m].1 = gx at *
            generalize xs[m].2 = gy at *
            generalize xs[k + 1 + j] = P0 at *
            generalize xs[k + 1 + (j + 1)] = P1 at *
            obtain ⟨uk, vk⟩ := P0
            obtain ⟨un, vn⟩ := P1
            dsimp only at d0 d1 f0 f1
            by_cases c : un = uk ∧ vn = vk
            · have b1 : (un == uk) = true := by rw [beq_iff_eq]; exact c.1
              have b2 : (vn == vk) = true := by rw [beq_iff_eq]; exact c.2
              have hx2 : Hid (xs.length = ps.length ∧ xs.take m = dd (ps.take (k + 1 + (j + 1 + 1))) ∧ ∀ i, k + 1 + (j + 1) ≤ i → xs[i]? = ps[i]?) := by
                refine ⟨hxs.out.1, ?_, fun i hi => hxs.out.2.2 i (by omega)⟩
                rw [htk2.out, if_pos (by rw [c.1, c.2]), hxs.out.2.1]
              clear hxs htk2 c
              go_wp2_with fail
              refine wp_region_gw (by kernel_rfl) (by kernel_rfl) ?_
              repeat (go_big_quiet_step (fail))
              refine wpQuiet_nil ?_
              intro w1 hw1
              obtain ⟨q, rfl⟩ := hw1
              go_wp2_with fail
              exact ⟨⟨m, j + 1, xs, by go_num, by go_num, by omega, by omega, by omega, hx2, hrow.gw, gb_gw hgb⟩, by (try go_num); simp [intOf]; (try omega)⟩
            · have hx2 : Hid ((xs.set m (un, vn)).length = ps.length ∧ (xs.set m (un, vn)).take (m + 1) = dd (ps.take (k + 1 + (j + 1 + 1))) ∧ ∀ i, k + 1 + (j + 1) ≤ i → (xs.set m (un, vn))[i]? = ps[i]?) := by
                refine ⟨by rw [List.length_set]; exact hxs.out.1, ?_, fun i hi => ?_⟩
                · rw [htk2.out, if_neg (fun e => c ⟨(congrArg Prod.fst e).symm, (congrArg Prod.snd e).symm⟩), ← hxs.out.2.1]
                  rw [← List.take_append_getElem (show m < (xs.set m (un, vn)).length by rw [List.length_set]; omega), List.take_set_of_le (Nat.le_refl _), List.getElem_set_self]
                · rw [List.getElem?_set_ne (by omega)]; exact hxs.out.2.2 i (by omega)
              have hc2 : ((un == uk) = true ∧ (vn == vk) = false) ∨ (un == uk) = false := by
                by_cases c1 : un = uk
                · exact .inl ⟨by rw [beq_iff_eq]; exact c1, by rw [beq_eq_false_iff_ne]; exact fun c2 => c ⟨c1, c2⟩⟩
                · exact .inr (by rw [beq_eq_false_iff_ne]; exact c1)
              have hrow2 : ∀ q, Row (gw ((V.setCell ⟨B, m * 2, none⟩ (.int .i64 un)).setCell ⟨B, m * 2 + 1, none⟩ (.int .i64 vn)) q) B (xs.set m (un, vn)) 27 := fun q => Row.gw (hrow.set (by rw [hlx.out]; exact hml) un vn)
              clear hxs htk2 c
              rcases hc2 with ⟨b1, b2⟩ | b1
              all_goals
                go_wp2_with fail
                refine wp_region_gw (by kernel_rfl) (by kernel_rfl) ?_
                repeat (go_big_quiet_step (fail))
                refine wpQuiet_nil ?_
                intro w1 hw1
                obtain ⟨q, rfl⟩ := hw1
                go_wp2_with fail
                exact ⟨⟨m + 1, j + 1, xs.set m (un, vn), by go_num, by go_num, by omega, by omega, by omega, hx2, hrow2 _, gb_gw (gb_set (gb_set hgb))⟩, by (try go_num); simp [intOf]; (try omega)⟩
          · have j1 : ¬ (j : Int) + 1 < (N : Int) := by omega
            have hend : k + 1 + (j + 1) = ps.length := by omega
            have hfin : xs.take m = R := by rw [hxs.out.2.1, hend, List.take_length, hR.out]
            have hmR : m = R.length := by rw [← hfin, List.length_take, hlx.out]; omega
            obtain ⟨vs, hcl⟩ := clr_run V B (m * 2) (ps.length - m) (cap - m) (by omega) (fun i hi => by
              rcases Nat.mod_two_eq_zero_or_one i with hm | hm
              · have := (hrow.at (i := m + i / 2) (by rw [hlx.out]; omega)).1
                rw [show (m + i / 2) * 2 = m * 2 + i from by omega] at this
                rw [this]; rfl
              · have := (hrow.at (i := m + i / 2) (by rw [hlx.out]; omega)).2
                rw [show (m + i / 2) * 2 + 1 = m * 2 + i from by omega] at this
                rw [this]; rfl) (fun i hi => hrow.free _)
            have hRow : Row (V.setCells B (m * 2) vs) B R 27 := Row.cells vs (hrow.pre hfin) (by omega)
            have hGb : w.grownBy (V.setCells B (m * 2) vs) (some B) := gb_cells vs _ hgb
            clear hxs hfin hend hR hN
            subst hmR
            go_wp2_with fail
            exact bodyPost_ret (v := .slice (some ⟨B, 0, none⟩) R.length cap) (by simp [results, Try.results30, go_sem]) rfl ⟨rfl, hRow, hGb⟩
    · have hke : k + 1 = ps.length := by omega
      have i1 : ¬ (k : Int) + 1 < (ps.length : Int) := by omega
      obtain rfl : ps = R := by have := hdd.out; rw [hke, List.take_length] at this; rw [← hR.out, this]
      clear hdd hR
      go_wp2_with fail
      exact bodyPost_ret (v := .slice (some ⟨B, 0, none⟩) ps.length cap) (by simp [results, Try.results30, go_sem]) rfl ⟨rfl, h.gw, gb_gw (gb_refl _ _)⟩

end Go.Proofs.Ytncijpaooiopfaa
