/- Contracts of chapter 16's reference: polygonCircle (ManifoldCollide). -/
import Derived.Test.YtiecpebckmihgaaGreatMnA
set_option linter.unusedVariables false
namespace Go.Proofs.YtiecpebckmihgaaGreat
open Go.RowKit Fx

theorem cloE_step (a : List Pt) (cx cy : Int) (k : Nat) (h : 0 < k) : cloE a cx cy k = if dist2 (cpE a cx cy k).1 (cpE a cx cy k).2 cx cy < dist2 (cloE a cx cy (k - 1)).1 (cloE a cx cy (k - 1)).2 cx cy then cpE a cx cy k else cloE a cx cy (k - 1) := by
  obtain ⟨j, rfl⟩ : ∃ j, k = j + 1 := ⟨k - 1, by omega⟩
  rfl

set_option maxRecDepth 100000 in
set_option maxHeartbeats 32000000 in
theorem rpol16_b (S : Int) (A : Option Addr) (ca : Nat) (ps : List (Int × Int)) (cx cy : Int) (h2 : 2 ≤ ps.length) (hl : ps.length ≤ 1000) (M : Mn) (hM : (polM ps cx cy S).nz = M) (w : World) (ha : Pts w A ps) :
    Calls Tryz.prog 29 #[.slice A ps.length ca, .agg #[.int .i64 cx, .int .i64 cy], .int .i64 S] w (MnT w M (decide (M.l ≠ []))) := by
  have cM : ∀ B w', Pts w' A ps → Pts w' (some ⟨B, 0, none⟩) [(cx, cy)] → Calls Tryz.prog 59 #[.slice A ps.length ca, .slice (some ⟨B, 0, none⟩) 1 1] w' fun e w'' => e = .returned (.tuple #[.int .i64 (msep ps [(cx, cy)]).1, .int .i64 (msep ps [(cx, cy)]).2]) ∧ Below w'.heap.size w' w'' := fun B w' h1 h2 => rmsep_b A (some ⟨B, 0, none⟩) ca 1 ps [(cx, cy)] (by omega) (by simp) w' h1 h2
  have cN := fun w' h => rnor_b A ca ps (msep ps [(cx, cy)]).1 (by omega) w' h
  have cF := fun w' => rcp_b (hp' ps 0).1 (hp' ps 0).2 (hp' ps 1).1 (hp' ps 1).2 cx cy w'
  have hF0 : cloE ps cx cy 0 = (cpc (cpt (hp' ps 0).1 (hp' ps 0).2 (hp' ps 1).1 (hp' ps 1).2 cx cy) (hp' ps 0).1 (hp' ps 1).1, cpc (cpt (hp' ps 0).1 (hp' ps 0).2 (hp' ps 1).1 (hp' ps 1).2 cx cy) (hp' ps 0).2 (hp' ps 1).2) := rfl
  have cS := fun w' => rvsub_b cx cy (cloE ps cx cy (ps.length - 1)).1 (cloE ps cx cy (ps.length - 1)).2 w'
  have cL := fun w' => rvlen_b (sub cx (cloE ps cx cy (ps.length - 1)).1) (sub cy (cloE ps cx cy (ps.length - 1)).2) w'
  have cU := fun w' => rvnorm_b (sub cx (cloE ps cx cy (ps.length - 1)).1) (sub cy (cloE ps cx cy (ps.length - 1)).2) w'
  have hlen : 0 ≤ vlen (sub cx (cloE ps cx cy (ps.length - 1)).1) (sub cy (cloE ps cx cy (ps.length - 1)).2) := (vlen_is _ _).1
  have hO := one_nz (polN ps cx cy).1 (polN ps cx cy).2 (ptO (polN ps cx cy).1 (polN ps cx cy).2 cx cy (polG ps cx cy) S).1 (ptO (polN ps cx cy).1 (polN ps cx cy).2 cx cy (polG ps cx cy) S).2 (sub (polG ps cx cy) S)
  have hM2 : (oneM (polN ps cx cy).1 (polN ps cx cy).2 (ptO (polN ps cx cy).1 (polN ps cx cy).2 cx cy (polG ps cx cy) S).1 (ptO (polN ps cx cy).1 (polN ps cx cy).2 cx cy (polG ps cx cy) S).2 (sub (polG ps cx cy) S)).nz = M := hM
  rw [hM2] at hO
  clear hM hM2
  have hN : Hid ((0 < (msep ps [(cx, cy)]).2 ∧ polG ps cx cy = vlen (sub cx (cloE ps cx cy (ps.length - 1)).1) (sub cy (cloE ps cx cy (ps.length - 1)).2) ∧ ((vlen (sub cx (cloE ps cx cy (ps.length - 1)).1) (sub cy (cloE ps cx cy (ps.length - 1)).2) ≠ 0 ∧ (polN ps cx cy).1 = unit (sub cx (cloE ps cx cy (ps.length - 1)).1) (vlen (sub cx (cloE ps cx cy (ps.length - 1)).1) (sub cy (cloE ps cx cy (ps.length - 1)).2)) ∧ (polN ps cx cy).2 = unit (sub cy (cloE ps cx cy (ps.length - 1)).2) (vlen (sub cx (cloE ps cx cy (ps.length - 1)).1) (sub cy (cloE ps cx cy (ps.length - 1)).2))) ∨ (vlen (sub cx (cloE ps cx cy (ps.length - 1)).1) (sub cy (cloE ps cx cy (ps.length - 1)).2) = 0 ∧ (polN ps cx cy).1 = (eNor ps (msep ps [(cx, cy)]).1).1 ∧ (polN ps cx cy).2 = (eNor ps (msep ps [(cx, cy)]).1).2))) ∨ (¬ 0 < (msep ps [(cx, cy)]).2 ∧ polG ps cx cy = (msep ps [(cx, cy)]).2 ∧ (polN ps cx cy).1 = (eNor ps (msep ps [(cx, cy)]).1).1 ∧ (polN ps cx cy).2 = (eNor ps (msep ps [(cx, cy)]).1).2)) := by
    unfold polN polG
    by_cases c : 0 < (msep ps [(cx, cy)]).2
    · refine .inl ⟨c, by rw [if_pos c]; rfl, ?_⟩
      by_cases d : vlen (polD ps cx cy).1 (polD ps cx cy).2 ≠ 0
      · refine .inl ⟨d, ?_⟩
        rw [if_pos ⟨c, d⟩]; exact ⟨rfl, rfl⟩
      · refine .inr ⟨Decidable.not_not.1 d, ?_⟩
        rw [if_neg (fun h => d h.2)]; exact ⟨rfl, rfl⟩
    · refine .inr ⟨c, by rw [if_neg c], ?_⟩
      rw [if_neg (fun h => c h.1)]; exact ⟨rfl, rfl⟩
  unfold ptO at hO
  dsimp only at hO
  generalize polG ps cx cy = G at *
  generalize (polN ps cx cy).1 = nx at *
  generalize (polN ps cx cy).2 = ny at *
  generalize (msep ps [(cx, cy)]).1 = ix at *
  generalize (msep ps [(cx, cy)]).2 = g at *
  generalize (eNor ps ix).1 = e1 at *
  generalize (eNor ps ix).2 = e2 at *
  generalize vlen (sub cx (cloE ps cx cy (ps.length - 1)).1) (sub cy (cloE ps cx cy (ps.length - 1)).2) = vl at *
  generalize unit (sub cx (cloE ps cx cy (ps.length - 1)).1) vl = u1 at *
  generalize unit (sub cy (cloE ps cx cy (ps.length - 1)).2) vl = u2 at *
  generalize sub cx (cloE ps cx cy (ps.length - 1)).1 = dx at *
  generalize sub cy (cloE ps cx cy (ps.length - 1)).2 = dy at *
  have c1 := fun w' => rsub_b G S w'
  have c2 := fun w' => radd_b G S w'
  have c3 := fun w' => rrd_b (add G S) 2 w'
  generalize rdiv (add G S) 2 = h at *
  generalize add G S = gs at *
  generalize sub G S = sp at *
  have c4 := fun w' => rvscale_b nx ny h w'
  have c5 := fun w' => rvsub_b cx cy (mul nx h) (mul ny h) w'
  generalize mul nx h = m1 at *
  generalize mul ny h = m2 at *
  generalize sub cx m1 = x at *
  generalize sub cy m2 = y at *
  have hOH : Hid (_ ∧ _) := hO
  clear hO
  have hlenH : Hid (0 ≤ vl) := hlen
  have hF0H : Hid (cloE ps cx cy 0 = _) := hF0
  clear hlen hF0
  go_enter Tryz.func29, Tryz.ntmps29
  go_upto_region 3 with (first | (go_at_call 59; refine Calls.mono (gw_at (cM _ _ (Pts.to ha bBel) (pts_of_list (ps := [(cx, cy)]) (t := 27) (show blk _ _ #[.int .i64 cx, .int .i64 cy] _ from bBkn)))) ?_; rintro e w1 ⟨rfl, q, rfl⟩) | (go_at_call 60; refine Calls.mono (gw_at (cN _ (Pts.to ha bBel))) ?_; rintro e w1 ⟨rfl, q2, rfl⟩))
  refine wp_named ?_
  intro W hW
  have kC : blk W w.heap.size #[.int .i64 cx, .int .i64 cy] 27 := by rw [hW]; exact bBkn
  have kR : blk W (w.heap.size + 1) #[.int .i64 0, .int .i64 0, .slice none 0 0] 34 := by rw [hW]; exact bBkn
  have kN : blk W (w.heap.size + 1 + 1 + 1 + q.os.size + q2.os.size) #[.int .i64 e1, .int .i64 e2] 27 := by rw [hW]; exact bBkn
  have hbW : Below w.heap.size w W := by rw [hW]; exact bBel
  have hN0 : w.heap.size + 2 ≤ w.heap.size + 1 + 1 + 1 + q.os.size + q2.os.size := by omega
  clear hW cM cN
  generalize w.heap.size + 1 + 1 + 1 + q.os.size + q2.os.size = NB at *
  clear q q2
  have hszW := hbW.size
  have haW := Pts.to ha hbW
  have hNW := blk_lt kN
  clear ha
  go_upto_if 30 with fail
  go_cut [9] (fun s9 wx => s9 = .int .i64 G ∧ blk wx NB #[.int .i64 nx, .int .i64 ny] 27 ∧ blk wx w.heap.size #[.int .i64 cx, .int .i64 cy] 27 ∧ blk wx (w.heap.size + 1) #[.int .i64 0, .int .i64 0, .slice none 0 0] 34 ∧ Below w.heap.size w wx)
  case first =>
    rcases hN.out with ⟨c, rfl, hn⟩ | ⟨c, rfl, rfl, rfl⟩
    · have c0 : 0 < g := by omega
      have hd : decide (0 < g) = true := decide_eq_true c0
      have hgH : Hid (_ ∨ _) := hn
      clear hn hN
      obtain ⟨b, off, rfl, hc⟩ := pts_open0 haW (by omega)
      obtain ⟨d0, d1⟩ := hc 0 (by omega)
      obtain ⟨d2, d3⟩ := hc 1 (by omega)
      rw [Nat.zero_mul, Nat.add_zero] at d0 d1
      rw [hp_get (show 0 < ps.length by omega), hp_get (show 1 < ps.length by omega)] at cF hF0H
      have od := older_of_cell d0
      have hbP : b < W.heap.size := World.block_lt_of_cell? W ⟨b, off, none⟩ d0
      generalize (ps[0]'(by omega)).1 = ax0 at *
      generalize (ps[0]'(by omega)).2 = ay0 at *
      generalize (ps[1]'(by omega)).1 = ax1 at *
      generalize (ps[1]'(by omega)).2 = ay1 at *
      generalize cpt ax0 ay0 ax1 ay1 cx cy = tt at *
      generalize cpc tt ax0 ax1 = X0 at *
      generalize cpc tt ay0 ay1 = Y0 at *
      have m1 : (1 : Int).tmod (ps.length : Int) = 1 := by
        rw [Int.tmod_eq_emod_of_nonneg (by omega)]; exact Int.emod_eq_of_lt (by omega) (by omega)
      have m2 : (1 : Int) % (ps.length : Int) = 1 := Int.emod_eq_of_lt (by omega) (by omega)
      have hnz : ((ps.length : Int) == 0) = false := by rw [beq_eq_false_iff_ne]; omega
      have n1 : (1 : Int) < (ps.length : Int) := by omega
      have n0 : (0 : Int) < (ps.length : Int) := by omega
      have hcellB : ∀ w', Below W.heap.size W w' → Below W.heap.size W w' ∧ w'.cell? ⟨b, off, none⟩ = some (.int .i64 ax0) ∧ w'.cell? ⟨b, off + 1, none⟩ = some (.int .i64 ay0) ∧ w'.cell? ⟨b, off + 2, none⟩ = some (.int .i64 ax1) ∧ w'.cell? ⟨b, off + 2 + 1, none⟩ = some (.int .i64 ay1) ∧ w'.cell? ⟨w.heap.size, 0, none⟩ = some (.int .i64 cx) ∧ w'.cell? ⟨w.heap.size, 1, none⟩ = some (.int .i64 cy) := fun w' h => ⟨h, (h.cell (p := ⟨b, off, none⟩) hbP).trans d0, (h.cell (p := ⟨b, off + 1, none⟩) hbP).trans d1, (h.cell (p := ⟨b, off + 2, none⟩) hbP).trans d2, (h.cell (p := ⟨b, off + 2 + 1, none⟩) hbP).trans d3, (h.cell (p := ⟨w.heap.size, 0, none⟩) (blk_lt kC)).trans (blk_cell kC 0), (h.cell (p := ⟨w.heap.size, 1, none⟩) (blk_lt kC)).trans (blk_cell kC 1)⟩
      clear d0 d1 d2 d3
      obtain ⟨-, d0, d1, d2, d3, -, -⟩ := hcellB _ (Below.refl _ W)
      go_upto_region 4 with fail
      go_cut [11, 12] (fun xx ti wx => ∃ E : Nat, xx = .pointer (some ⟨E, 0, none⟩) ∧ ti = .int .i64 tt ∧ W.heap.size ≤ E ∧ blk wx E #[.int .i64 X0, .int .i64 Y0] 27 ∧ Below W.heap.size W wx)
      case first =>
        clear cS cL cU hgH hOH c1 c2 c3 c4 c5 hc
        generalize ps.length = N at *
        have hN0 : ¬ N = 0 := by omega
        have n4 : (0 : Int) ≤ (N : Int) := by omega
        have n6 : 0 < N := by omega
        have n7 : 1 < N := by omega
        have okC := blk_older kC
        have ckC_0 : _ = some _ := blk_cell kC 0
        have ckC_1 : _ = some _ := blk_cell kC 1
        have fkC_0 := blk_free kC 0
        have fkC_1 := blk_free kC 1
        go_region_held3 (fun w' => Below W.heap.size W w' ∧ w'.cell? ⟨b, off, none⟩ = some (.int .i64 ax0) ∧ w'.cell? ⟨b, off + 1, none⟩ = some (.int .i64 ay0) ∧ w'.cell? ⟨b, off + 2, none⟩ = some (.int .i64 ax1) ∧ w'.cell? ⟨b, off + 2 + 1, none⟩ = some (.int .i64 ay1) ∧ w'.cell? ⟨w.heap.size, 0, none⟩ = some (.int .i64 cx) ∧ w'.cell? ⟨w.heap.size, 1, none⟩ = some (.int .i64 cy)) (first | (refine hcellB _ ?_; exact bBel)) ((go_at_call 61; with_reducible_and_instances refine Calls.mono (gw_at (cF _)) ?_; rintro e w1 ⟨rfl, q, rfl⟩))
        all_goals
          go_wp2_with fail
        all_goals
          go_meet
          exact ⟨_, rfl, rfl, by (try simp); (try omega), bBkn, bBel⟩
      case rest =>
      obtain ⟨E, rfl, rfl, nE, kE, hbX⟩ := hcut
      generalize wc = X at *
      have hE0 : Hid (cloE ps cx cy 0 = (X0, Y0)) := hF0H
      clear hcellB cF hF0H d0 d1 d2 d3 od
      have hWE : E < X.heap.size := blk_lt kE
      go_wp2_with fail
      go_loopw [13] (fun ic wr => ∃ k : Nat, 1 ≤ k ∧ k ≤ ps.length ∧ ic = .int .i64 (k : Int) ∧ blk wr E #[.int .i64 (cloE ps cx cy (k - 1)).1, .int .i64 (cloE ps cx cy (k - 1)).2] 27 ∧ Below W.heap.size W wr)
        (fun ic _ => (ps.length - intOf ic).toNat)
      case atStart =>
        refine ⟨1, Nat.le_refl _, by omega, rfl, ?_, hbX⟩
        show blk X E #[.int .i64 (cloE ps cx cy 0).1, .int .i64 (cloE ps cx cy 0).2] _
        rw [hE0.out]; exact kE
      case round =>
        clear kE hE0
        obtain ⟨k, hk1, hk, rfl, kE, hbR⟩ := hrel
        have kC4 := blk_below hbR kC
        have hszR := hbR.size
        have j0 : (0 : Int) ≤ (k : Int) := by omega
        by_cases hlt : k < ps.length
        · have hm := mod_next (k := k) (show 0 < ps.length by omega)
          have hmod := Nat.mod_lt (k + 1) (show 0 < ps.length by omega)
          have j1 : (k : Int) < (ps.length : Int) := by omega
          have cP := fun w' => rcp_b (hp' ps k).1 (hp' ps k).2 (hp' ps (k + 1)).1 (hp' ps (k + 1)).2 cx cy w'
          have hE : Hid (cpE ps cx cy k = (cpc (cpt (hp' ps k).1 (hp' ps k).2 (hp' ps (k + 1)).1 (hp' ps (k + 1)).2 cx cy) (hp' ps k).1 (hp' ps (k + 1)).1, cpc (cpt (hp' ps k).1 (hp' ps k).2 (hp' ps (k + 1)).1 (hp' ps (k + 1)).2 cx cy) (hp' ps k).2 (hp' ps (k + 1)).2)) := rfl
          have hst2 := cloE_step ps cx cy k (by omega)
          rw [← hp_mod ps (k + 1)] at cP hE
          obtain ⟨d0, d1⟩ := hc k hlt
          obtain ⟨d2, d3⟩ := hc ((k + 1) % ps.length) hmod
          replace d0 := (hbR.cell (p := ⟨b, off + k * 2, none⟩) hbP).trans d0
          replace d1 := (hbR.cell (p := ⟨b, off + k * 2 + 1, none⟩) hbP).trans d1
          replace d2 := (hbR.cell (p := ⟨b, off + (k + 1) % ps.length * 2, none⟩) hbP).trans d2
          replace d3 := (hbR.cell (p := ⟨b, off + (k + 1) % ps.length * 2 + 1, none⟩) hbP).trans d3
          have od := older_of_cell d0
          rw [hp_get hlt, hp_get hmod] at cP hE
          have hkm : (k : Int) + 1 ≤ (ps.length : Int) := by omega
          have y0 : IntKind.i64.wrap ((k : Int) + 1) = (k : Int) + 1 := by rw [IntWalk.i64_left, IntWalk.wrap64_in _ (by omega)]
          generalize (k + 1) % ps.length = nxt at *
          have x0 : (0 : Int) ≤ (nxt : Int) := by omega
          have x1 : (nxt : Int) < (ps.length : Int) := by omega
          generalize cpt ps[k].1 ps[k].2 ps[nxt].1 ps[nxt].2 cx cy = t2 at *
          generalize cpc t2 ps[k].1 ps[nxt].1 = PX at *
          generalize cpc t2 ps[k].2 ps[nxt].2 = PY at *
          generalize ps[k].1 = ax2 at *
          generalize ps[k].2 = ay2 at *
          generalize ps[nxt].1 = bx2 at *
          generalize ps[nxt].2 = by2 at *
          rw [hE.out] at hst2
          dsimp only at hst2
          generalize hpp : cloE ps cx cy (k - 1) = p at *
          have cA := fun w' => rdist2_b PX PY cx cy w'
          have cB := fun w' => rdist2_b p.1 p.2 cx cy w'
          have hst3 : Hid (cloE ps cx cy k = if dist2 PX PY cx cy < dist2 p.1 p.2 cx cy then (PX, PY) else p) := hst2
          have hlt5 : b < wr.heap.size := by omega
          have hcellB : ∀ w', Below wr.heap.size wr w' → Below wr.heap.size wr w' ∧ w'.cell? ⟨b, off + k * 2, none⟩ = some (.int .i64 ax2) ∧ w'.cell? ⟨b, off + k * 2 + 1, none⟩ = some (.int .i64 ay2) ∧ w'.cell? ⟨b, off + nxt * 2, none⟩ = some (.int .i64 bx2) ∧ w'.cell? ⟨b, off + nxt * 2 + 1, none⟩ = some (.int .i64 by2) ∧ w'.cell? ⟨w.heap.size, 0, none⟩ = some (.int .i64 cx) ∧ w'.cell? ⟨w.heap.size, 1, none⟩ = some (.int .i64 cy) := fun w' h => ⟨h, (h.cell (p := ⟨b, off + k * 2, none⟩) hlt5).trans d0, (h.cell (p := ⟨b, off + k * 2 + 1, none⟩) hlt5).trans d1, (h.cell (p := ⟨b, off + nxt * 2, none⟩) hlt5).trans d2, (h.cell (p := ⟨b, off + nxt * 2 + 1, none⟩) hlt5).trans d3, (h.cell (p := ⟨w.heap.size, 0, none⟩) (blk_lt kC4)).trans (blk_cell kC4 0), (h.cell (p := ⟨w.heap.size, 1, none⟩) (blk_lt kC4)).trans (blk_cell kC4 1)⟩
          clear hE hst2 hpp hgH hOH c1 c2 c3 c4 c5 cS cL cU hmod hc
          go_upto_region 8 with fail
          go_cut [14, 15] (fun yy ti wx => ∃ Yb : Nat, yy = .pointer (some ⟨Yb, 0, none⟩) ∧ ti = .int .i64 t2 ∧ wr.heap.size ≤ Yb ∧ blk wx Yb #[.int .i64 PX, .int .i64 PY] 27 ∧ Below wr.heap.size wr wx)
          case first =>
            clear hst3 cA cB kE
            generalize ps.length = N at *
            have hN0 : ¬ N = 0 := by omega
            have n6 : 0 < N := by omega
            have okC4 := blk_older kC4
            have ckC4_0 : _ = some _ := blk_cell kC4 0
            have ckC4_1 : _ = some _ := blk_cell kC4 1
            have fkC4_0 := blk_free kC4 0
            have fkC4_1 := blk_free kC4 1
            go_region_held3 (fun w' => Below wr.heap.size wr w' ∧ w'.cell? ⟨b, off + k * 2, none⟩ = some (.int .i64 ax2) ∧ w'.cell? ⟨b, off + k * 2 + 1, none⟩ = some (.int .i64 ay2) ∧ w'.cell? ⟨b, off + nxt * 2, none⟩ = some (.int .i64 bx2) ∧ w'.cell? ⟨b, off + nxt * 2 + 1, none⟩ = some (.int .i64 by2) ∧ w'.cell? ⟨w.heap.size, 0, none⟩ = some (.int .i64 cx) ∧ w'.cell? ⟨w.heap.size, 1, none⟩ = some (.int .i64 cy)) (first | (refine hcellB _ ?_; exact bBel)) ((go_at_call 61; with_reducible_and_instances refine Calls.mono (gw_at (cP _)) ?_; rintro e w1 ⟨rfl, q, rfl⟩))
            all_goals
              go_wp2_with fail
            all_goals
              go_meet
              exact ⟨_, rfl, rfl, by (try simp); (try omega), bBkn, bBel⟩
          case rest =>
          obtain ⟨Yb, rfl, rfl, nY, kY, hbX6⟩ := hcut
          generalize wc = X6 at *
          have kC5 := blk_below hbX6 kC4
          have kE5 := blk_below hbX6 kE
          have hb6 : Below W.heap.size W X6 := Below.trans hbR (hbX6.mono hszR)
          have hsz6 := hb6.size
          have hEY : E < Yb := Nat.lt_of_lt_of_le (blk_lt kE) nY
          clear hcellB cP hbX6 kC4 kE hm hnz y0 x0 x1 d0 d1 d2 d3 od
          have okC5 := blk_older kC5
          have ckC5_0 : _ = some _ := blk_cell kC5 0
          have ckC5_1 : _ = some _ := blk_cell kC5 1
          have fkC5_0 := blk_free kC5 0
          have fkC5_1 := blk_free kC5 1
          have okE5 := blk_older kE5
          have ckE5_0 : _ = some _ := blk_cell kE5 0
          have ckE5_1 : _ = some _ := blk_cell kE5 1
          have fkE5_0 := blk_free kE5 0
          have fkE5_1 := blk_free kE5 1
          have okY := blk_older kY
          have ckY_0 : _ = some _ := blk_cell kY 0
          have ckY_1 : _ = some _ := blk_cell kY 1
          have fkY_0 := blk_free kY 0
          have fkY_1 := blk_free kY 1
          by_cases c : dist2 PX PY cx cy < dist2 p.1 p.2 cx cy
          · have hq : Hid ((PX, PY) = cloE ps cx cy k) := by have := hst3.out; rw [if_pos c] at this; exact this.symm
            have hc1 : decide (dist2 PX PY cx cy < dist2 p.1 p.2 cx cy) = true := decide_eq_true c
            clear hst3
            generalize dist2 PX PY cx cy = D1 at *
            generalize dist2 p.1 p.2 cx cy = D2 at *
            go_wp2_with fail
            refine wp_region_gw (by kernel_rfl) (by kernel_rfl) ?_
            repeat (go_big_quiet_step ((first | (go_at_call 62; with_reducible_and_instances exact gw_call (cA _)) | (go_at_call 62; with_reducible_and_instances exact gw_call (cB _)))))
            refine wpQuiet_nil ?_
            intro w1 hw1
            obtain ⟨q, rfl⟩ := hw1
            go_wp2_with fail
            exact ⟨⟨k + 1, by omega, by omega, by go_num, by rw [Nat.add_sub_cancel, ← hq.out]; exact (by apply blk_of; (repeat (first | with_reducible exact kE5 | with_reducible apply blk_drew | with_reducible apply blk_gw | with_reducible apply blk_alloc | with_reducible apply blk_set | ((with_reducible apply blk_other); focus omega))); (first | rfl | simp)), bBel⟩, by (try go_num); simp [intOf]; (try omega)⟩
          · have hq : Hid (p = cloE ps cx cy k) := by have := hst3.out; rw [if_neg c] at this; exact this.symm
            have hc1 : decide (dist2 PX PY cx cy < dist2 p.1 p.2 cx cy) = false := decide_eq_false c
            clear hst3
            generalize dist2 PX PY cx cy = D1 at *
            generalize dist2 p.1 p.2 cx cy = D2 at *
            go_wp2_with fail
            refine wp_region_gw (by kernel_rfl) (by kernel_rfl) ?_
            repeat (go_big_quiet_step ((first | (go_at_call 62; with_reducible_and_instances exact gw_call (cA _)) | (go_at_call 62; with_reducible_and_instances exact gw_call (cB _)))))
            refine wpQuiet_nil ?_
            intro w1 hw1
            obtain ⟨q, rfl⟩ := hw1
            go_wp2_with fail
            exact ⟨⟨k + 1, by omega, by omega, by go_num, by rw [Nat.add_sub_cancel, ← hq.out]; exact (by apply blk_of; (repeat (first | with_reducible exact kE5 | with_reducible apply blk_drew | with_reducible apply blk_gw | with_reducible apply blk_alloc | with_reducible apply blk_set | ((with_reducible apply blk_other); focus omega))); (first | rfl | simp)), bBel⟩, by (try go_num); simp [intOf]; (try omega)⟩
        · obtain rfl : k = ps.length := by omega
          have j1 : ¬ (ps.length : Int) < (ps.length : Int) := by omega
          have kN4 := blk_below hbR kN
          have kR4 := blk_below hbR kR
          have hbR2 : Below w.heap.size w wr := Below.trans hbW (hbR.mono hszW)
          clear hc hbX hbR
          generalize (cloE ps cx cy (ps.length - 1)).1 = z1 at *
          generalize (cloE ps cx cy (ps.length - 1)).2 = z2 at *
          have okC4 := blk_older kC4
          have ckC4_0 : _ = some _ := blk_cell kC4 0
          have ckC4_1 : _ = some _ := blk_cell kC4 1
          have fkC4_0 := blk_free kC4 0
          have fkC4_1 := blk_free kC4 1
          have okE := blk_older kE
          have ckE_0 : _ = some _ := blk_cell kE 0
          have ckE_1 : _ = some _ := blk_cell kE 1
          have fkE_0 := blk_free kE 0
          have fkE_1 := blk_free kE 1
          go_upto_region 12 with (go_at_call 23; refine Calls.mono (gw_at (cS _)) ?_; rintro e w1 ⟨rfl, q, rfl⟩)
          refine wp_named ?_
          intro V hV
          have kD : blk V (wr.heap.size + q.os.size) #[.int .i64 dx, .int .i64 dy] 27 := by rw [hV]; exact bBkn
          have kN5 : blk V NB #[.int .i64 e1, .int .i64 e2] 27 := by rw [hV]; exact (by apply blk_of; (repeat (first | with_reducible exact kN4 | with_reducible apply blk_drew | with_reducible apply blk_gw | with_reducible apply blk_alloc | with_reducible apply blk_set | ((with_reducible apply blk_other); focus omega))); (first | rfl | simp))
          have kC5 : blk V w.heap.size #[.int .i64 cx, .int .i64 cy] 27 := by rw [hV]; exact (by apply blk_of; (repeat (first | with_reducible exact kC4 | with_reducible apply blk_drew | with_reducible apply blk_gw | with_reducible apply blk_alloc | with_reducible apply blk_set | ((with_reducible apply blk_other); focus omega))); (first | rfl | simp))
          have kR5 : blk V (w.heap.size + 1) #[.int .i64 0, .int .i64 0, .slice none 0 0] 34 := by rw [hV]; exact (by apply blk_of; (repeat (first | with_reducible exact kR4 | with_reducible apply blk_drew | with_reducible apply blk_gw | with_reducible apply blk_alloc | with_reducible apply blk_set | ((with_reducible apply blk_other); focus omega))); (first | rfl | simp))
          have hbV : Below w.heap.size w V := by rw [hV]; exact bBel
          clear hV okC4 ckC4_0 ckC4_1 fkC4_0 fkC4_1 okE ckE_0 ckE_1 fkE_0 fkE_1 kE kC4 kN4 kR4 hbR2 cS
          generalize wr.heap.size + q.os.size = DB at *
          have hszV := hbV.size
          have okD := blk_older kD
          have ckD_0 : _ = some _ := blk_cell kD 0
          have ckD_1 : _ = some _ := blk_cell kD 1
          have fkD_0 := blk_free kD 0
          have fkD_1 := blk_free kD 1
          have okN5 := blk_older kN5
          have ckN5_0 : _ = some _ := blk_cell kN5 0
          have ckN5_1 : _ = some _ := blk_cell kN5 1
          have fkN5_0 := blk_free kN5 0
          have fkN5_1 := blk_free kN5 1
          have hlen := hlenH.out
          rcases hgH.out with ⟨z, rfl, rfl⟩ | ⟨z, rfl, rfl⟩
          · have z3 : 0 < G := by omega
            have z4 : decide (0 < G) = true := decide_eq_true z3
            clear z hgH
            go_wp2_with (first | (go_at_call 22; refine Calls.mono (gw_at (cL _)) ?_; rintro e w1 ⟨rfl, q1, rfl⟩) | (go_at_call 55; refine Calls.mono (gw_at (cU _)) ?_; rintro e w1 ⟨rfl, q2, rfl⟩))
            go_meet
            exact ⟨rfl, (by apply blk_of; (repeat (first | with_reducible exact kN5 | with_reducible apply blk_drew | with_reducible apply blk_gw | with_reducible apply blk_alloc | with_reducible apply blk_set | ((with_reducible apply blk_other); focus omega))); (first | rfl | simp)), (by apply blk_of; (repeat (first | with_reducible exact kC5 | with_reducible apply blk_drew | with_reducible apply blk_gw | with_reducible apply blk_alloc | with_reducible apply blk_set | ((with_reducible apply blk_other); focus omega))); (first | rfl | simp)), (by apply blk_of; (repeat (first | with_reducible exact kR5 | with_reducible apply blk_drew | with_reducible apply blk_gw | with_reducible apply blk_alloc | with_reducible apply blk_set | ((with_reducible apply blk_other); focus omega))); (first | rfl | simp)), bBel⟩
          · have z3 : ¬ 0 < G := by omega
            have z4 : decide (0 < G) = false := decide_eq_false z3
            clear z hgH
            go_wp2_with (first | (go_at_call 22; refine Calls.mono (gw_at (cL _)) ?_; rintro e w1 ⟨rfl, q1, rfl⟩))
            go_meet
            exact ⟨rfl, (by apply blk_of; (repeat (first | with_reducible exact kN5 | with_reducible apply blk_drew | with_reducible apply blk_gw | with_reducible apply blk_alloc | with_reducible apply blk_set | ((with_reducible apply blk_other); focus omega))); (first | rfl | simp)), (by apply blk_of; (repeat (first | with_reducible exact kC5 | with_reducible apply blk_drew | with_reducible apply blk_gw | with_reducible apply blk_alloc | with_reducible apply blk_set | ((with_reducible apply blk_other); focus omega))); (first | rfl | simp)), (by apply blk_of; (repeat (first | with_reducible exact kR5 | with_reducible apply blk_drew | with_reducible apply blk_gw | with_reducible apply blk_alloc | with_reducible apply blk_set | ((with_reducible apply blk_other); focus omega))); (first | rfl | simp)), bBel⟩
    · have c0 : ¬ 0 < G := by omega
      have hd : decide (0 < G) = false := decide_eq_false c0
      go_wp2_with fail
      go_meet
      exact ⟨rfl, (by apply blk_of; (repeat (first | with_reducible exact kN | with_reducible apply blk_drew | with_reducible apply blk_gw | with_reducible apply blk_alloc | with_reducible apply blk_set | ((with_reducible apply blk_other); focus omega))); (first | rfl | simp)), (by apply blk_of; (repeat (first | with_reducible exact kC | with_reducible apply blk_drew | with_reducible apply blk_gw | with_reducible apply blk_alloc | with_reducible apply blk_set | ((with_reducible apply blk_other); focus omega))); (first | rfl | simp)), (by apply blk_of; (repeat (first | with_reducible exact kR | with_reducible apply blk_drew | with_reducible apply blk_gw | with_reducible apply blk_alloc | with_reducible apply blk_set | ((with_reducible apply blk_other); focus omega))); (first | rfl | simp)), bBel⟩
  case rest =>
  obtain ⟨rfl, kN4, kC4, kR4, hbY⟩ := hcut
  generalize wc = Y at *
  clear kN kC kR hbW hszW haW hN hNW cF hF0H hlenH cS cL cU
  have hszY := hbY.size
  go_upto_region 16 with (go_at_call 48; refine Calls.mono (gw_at (c1 _)) ?_; rintro e w1 ⟨rfl, q3, rfl⟩)
  refine wp_named ?_
  intro T hT
  have kN5 : blk T NB #[.int .i64 nx, .int .i64 ny] 27 := by rw [hT]; exact (by apply blk_of; (repeat (first | with_reducible exact kN4 | with_reducible apply blk_drew | with_reducible apply blk_gw | with_reducible apply blk_alloc | with_reducible apply blk_set | ((with_reducible apply blk_other); focus omega))); (first | rfl | simp))
  have kC5 : blk T w.heap.size #[.int .i64 cx, .int .i64 cy] 27 := by rw [hT]; exact (by apply blk_of; (repeat (first | with_reducible exact kC4 | with_reducible apply blk_drew | with_reducible apply blk_gw | with_reducible apply blk_alloc | with_reducible apply blk_set | ((with_reducible apply blk_other); focus omega))); (first | rfl | simp))
  have kR5 : blk T (w.heap.size + 1) #[.int .i64 0, .int .i64 0, .slice none 0 0] 34 := by rw [hT]; exact (by apply blk_of; (repeat (first | with_reducible exact kR4 | with_reducible apply blk_drew | with_reducible apply blk_gw | with_reducible apply blk_alloc | with_reducible apply blk_set | ((with_reducible apply blk_other); focus omega))); (first | rfl | simp))
  have hbT : Below w.heap.size w T := by rw [hT]; exact bBel
  clear hT kN4 kC4 kR4 hbY hszY c1
  have hszT := hbT.size
  obtain ⟨o1, o2⟩ := hOH.out
  clear hOH
  by_cases hG : 1024 < sp
  · obtain rfl : M = mz := o1 (by omega)
    have hd : decide (1024 < sp) = true := decide_eq_true hG
    clear o1 o2
    have okR5 := blk_older kR5
    have ckR5_0 : _ = some _ := blk_cell kR5 0
    have ckR5_1 : _ = some _ := blk_cell kR5 1
    have ckR5_2 : _ = some _ := blk_cell kR5 2
    have fkR5_0 := blk_free kR5 0
    have fkR5_1 := blk_free kR5 1
    have fkR5_2 := blk_free kR5 2
    go_wp2_with fail
    refine post_named ?_
    intro Z hZ
    have kZ : blk Z (w.heap.size + 1) #[.int .i64 0, .int .i64 0, .slice none 0 0] 34 := by rw [hZ]; exact (by apply blk_of; (repeat (first | with_reducible exact kR5 | with_reducible apply blk_drew | with_reducible apply blk_gw | with_reducible apply blk_alloc | with_reducible apply blk_set | ((with_reducible apply blk_other); focus omega))); (first | rfl | simp))
    have hbZ : Below w.heap.size w Z := by rw [hZ]; exact bBel
    clear hZ
    have okZ := blk_older kZ
    have ckZ_0 : _ = some _ := blk_cell kZ 0
    have ckZ_1 : _ = some _ := blk_cell kZ 1
    have ckZ_2 : _ = some _ := blk_cell kZ 2
    have fkZ_0 := blk_free kZ 0
    have fkZ_1 := blk_free kZ 1
    have fkZ_2 := blk_free kZ 2
    exact bodyPost_ret (v := .tuple #[.agg #[.int .i64 0, .int .i64 0, .slice none 0 0], .bool false]) (by simp [results, Tryz.results29, go_sem, ckZ_0, ckZ_1, ckZ_2]) rfl (mnt_mk (l := []) (by decide) (Nat.le_refl _) (by decide) (fun _ => rfl) (.inl rfl) hbZ)
  · obtain rfl : M = ⟨nx, ny, [⟨x, y, sp, 0, 0, 0⟩]⟩ := o2 (by omega)
    have hd : decide (1024 < sp) = false := decide_eq_false hG
    clear o1 o2
    have okN5 := blk_older kN5
    have ckN5_0 : _ = some _ := blk_cell kN5 0
    have ckN5_1 : _ = some _ := blk_cell kN5 1
    have fkN5_0 := blk_free kN5 0
    have fkN5_1 := blk_free kN5 1
    have okC5 := blk_older kC5
    have ckC5_0 : _ = some _ := blk_cell kC5 0
    have ckC5_1 : _ = some _ := blk_cell kC5 1
    have fkC5_0 := blk_free kC5 0
    have fkC5_1 := blk_free kC5 1
    go_upto_region 18 with fail
    first
      | (refine wp_mix 15 [0, 1, 3, 0, 0, 16, 48, 120, 248, 0, 1023, 2047, 4095, 4095, 0, 24575, 65535] [] [0, 1, 2, 3, 4, 5, 6, 7, 8, 9, 10, 11, 12, 13, 14] (by kernel_rfl) (by decide +kernel) ?_)
      | (refine wp_mix 18 [0, 0, 3, 7, 0, 0, 32, 0, 128, 480, 1008, 2032, 0, 8191, 16383, 32767, 32767, 0, 196607, 524287] [] [0, 1, 2, 3, 4, 5, 6, 7, 8, 9, 10, 11, 12, 13, 14, 15, 16, 17] (by kernel_rfl) (by decide +kernel) ?_)
      | (refine wp_mix 7 [0, 0, 3, 0, 0, 31, 63] [] [0, 1, 2, 3, 4, 5, 6] (by kernel_rfl) (by decide +kernel) ?_)
      | (refine wp_mix 9 [0, 0, 0, 0, 12, 28, 62, 127, 0, 511] [] [0, 1, 2, 3, 4, 5, 6, 7, 8] (by kernel_rfl) (by decide +kernel) ?_)
    first
      | (repeat (first | (refine mix_skip (by rfl) (by rfl) (by rfl) (by rfl) ?_) | (refine mix_early (by rfl) (by rfl) (by rfl) ?_; go_big_quiet_step (fail); with_reducible refine wpQuiet_nil ?_) | (refine mix_late (by rfl) (by rfl) (by rfl) ?_; go_big_quiet_step (fail); with_reducible refine wpQuiet_nil ?_) | (refine mix_call (by rfl) (by rfl) (by rfl) ?_; intro pM Qs hQs; go_wp2_with (first | (go_at_call 58; refine Calls.mono (gw_at (c2 _)) ?_; rintro e w1 ⟨rfl, q5, rfl⟩) | (go_at_call 52; refine Calls.mono (gw_at (c3 _)) ?_; rintro e w1 ⟨rfl, q6, rfl⟩) | (go_at_call 57; refine Calls.mono (gw_at (c4 _)) ?_; rintro e w1 ⟨rfl, q7, rfl⟩) | (go_at_call 23; refine Calls.mono (gw_at (c5 _)) ?_; rintro e w1 ⟨rfl, q8, rfl⟩)); refine hQs _ _ bBel ?_)))
      | (repeat (first | (refine mix_skip (by rfl) (by rfl) (by rfl) (by rfl) ?_) | (refine mix_early (by rfl) (by rfl) (by rfl) ?_; go_big_quiet_step (fail); with_reducible refine wpQuiet_nil ?_) | (refine mix_late (by rfl) (by rfl) (by rfl) ?_; go_big_quiet_step (fail); with_reducible refine wpQuiet_nil ?_) | (refine mix_call (by rfl) (by rfl) (by rfl) ?_; intro pM Qs hQs; go_wp2_with (first | (go_at_call 58; refine Calls.mono (gw_at (c2 _)) ?_; rintro e w1 ⟨rfl, q5, rfl⟩) | (go_at_call 52; refine Calls.mono (gw_at (c3 _)) ?_; rintro e w1 ⟨rfl, q6, rfl⟩) | (go_at_call 57; refine Calls.mono (gw_at (c4 _)) ?_; rintro e w1 ⟨rfl, q7, rfl⟩) | (go_at_call 23; refine Calls.mono (gw_at (c5 _)) ?_; rintro e w1 ⟨rfl, q8, rfl⟩)); refine hQs _ _ bBel ?_)))
      | (repeat (first | (refine mix_skip (by rfl) (by rfl) (by rfl) (by rfl) ?_) | (refine mix_early (by rfl) (by rfl) (by rfl) ?_; go_big_quiet_step (fail); with_reducible refine wpQuiet_nil ?_) | (refine mix_late (by rfl) (by rfl) (by rfl) ?_; go_big_quiet_step (fail); with_reducible refine wpQuiet_nil ?_) | (refine mix_call (by rfl) (by rfl) (by rfl) ?_; intro pM Qs hQs; go_wp2_with (first | (go_at_call 58; refine Calls.mono (gw_at (c2 _)) ?_; rintro e w1 ⟨rfl, q5, rfl⟩) | (go_at_call 52; refine Calls.mono (gw_at (c3 _)) ?_; rintro e w1 ⟨rfl, q6, rfl⟩) | (go_at_call 57; refine Calls.mono (gw_at (c4 _)) ?_; rintro e w1 ⟨rfl, q7, rfl⟩) | (go_at_call 23; refine Calls.mono (gw_at (c5 _)) ?_; rintro e w1 ⟨rfl, q8, rfl⟩)); refine hQs _ _ bBel ?_)))
      | (repeat (first | (refine mix_skip (by rfl) (by rfl) (by rfl) (by rfl) ?_) | (refine mix_early (by rfl) (by rfl) (by rfl) ?_; go_big_quiet_step (fail); with_reducible refine wpQuiet_nil ?_) | (refine mix_late (by rfl) (by rfl) (by rfl) ?_; go_big_quiet_step (fail); with_reducible refine wpQuiet_nil ?_) | (refine mix_call (by rfl) (by rfl) (by rfl) ?_; intro pM Qs hQs; go_wp2_with (first | (go_at_call 58; refine Calls.mono (gw_at (c2 _)) ?_; rintro e w1 ⟨rfl, q5, rfl⟩) | (go_at_call 52; refine Calls.mono (gw_at (c3 _)) ?_; rintro e w1 ⟨rfl, q6, rfl⟩) | (go_at_call 57; refine Calls.mono (gw_at (c4 _)) ?_; rintro e w1 ⟨rfl, q7, rfl⟩) | (go_at_call 23; refine Calls.mono (gw_at (c5 _)) ?_; rintro e w1 ⟨rfl, q8, rfl⟩)); refine hQs _ _ bBel ?_)))
    refine mix_make #[.int .i64 0, .int .i64 0] 27 none (by rfl) (by rfl) (by rfl) (by rfl) (fun w => by simp [go_sem, mval]) ?_
    intro b7 wb hbb kb hS
    obtain ⟨qb, rfl⟩ := gw_of_below hbb
    have n7 : T.heap.size ≤ b7 := Nat.le_of_not_lt fun h => hS (by simp [h])
    clear hbb hS
    simp only [mval]
    first
      | (refine mix_end ?_
         intro pE
         simp only [List.drop_succ_cons, List.drop_zero])
      | (refine mix_end ?_
         intro pE
         simp only [List.drop_succ_cons, List.drop_zero])
      | (refine mix_end ?_
         intro pE
         simp only [List.drop_succ_cons, List.drop_zero])
      | (refine mix_end ?_
         intro pE
         simp only [List.drop_succ_cons, List.drop_zero])
    refine list_nm ?_
    intro Y2 hY2
    have k7 : blk Y2 b7 #[.int .i64 0, .int .i64 0] 27 := by rw [hY2]; exact (by apply blk_of; (repeat (first | with_reducible exact kb | with_reducible apply blk_drew | with_reducible apply blk_gw | with_reducible apply blk_alloc | with_reducible apply blk_set | ((with_reducible apply blk_other); focus omega))); (first | rfl | simp))
    have kN7 : blk Y2 NB #[.int .i64 nx, .int .i64 ny] 27 := by rw [hY2]; exact (by apply blk_of; (repeat (first | with_reducible exact kN5 | with_reducible apply blk_drew | with_reducible apply blk_gw | with_reducible apply blk_alloc | with_reducible apply blk_set | ((with_reducible apply blk_other); focus omega))); (first | rfl | simp))
    have kR7 : blk Y2 (w.heap.size + 1) #[.int .i64 0, .int .i64 0, .slice none 0 0] 34 := by rw [hY2]; exact (by apply blk_of; (repeat (first | with_reducible exact kR5 | with_reducible apply blk_drew | with_reducible apply blk_gw | with_reducible apply blk_alloc | with_reducible apply blk_set | ((with_reducible apply blk_other); focus omega))); (first | rfl | simp))
    have hbY2 : Below w.heap.size w Y2 := by rw [hY2]; exact bBel
    have hN7 : NB < b7 := Nat.lt_of_lt_of_le (blk_lt kN5) n7
    have hR7 : w.heap.size + 1 < b7 := Nat.lt_of_lt_of_le (blk_lt kR5) n7
    clear hY2 okN5 ckN5_0 ckN5_1 fkN5_0 fkN5_1 okC5 ckC5_0 ckC5_1 fkC5_0 fkC5_1 kN5 kC5 kR5 hbT hszT c2 c3 c4 c5 kb n7
    have ok7 := blk_older k7
    have ck7_0 : _ = some _ := blk_cell k7 0
    have ck7_1 : _ = some _ := blk_cell k7 1
    have fk7_0 := blk_free k7 0
    have fk7_1 := blk_free k7 1
    go_upto_region 19 with fail
    refine wp_named ?_
    intro Q hQ
    have kP : blk Q b7 #[.int .i64 x, .int .i64 y] 27 := by rw [hQ]; exact (by apply blk_of; (repeat (first | with_reducible exact k7 | with_reducible apply blk_drew | with_reducible apply blk_gw | with_reducible apply blk_alloc | with_reducible apply blk_set | ((with_reducible apply blk_other); focus omega))); (first | rfl | simp))
    have kN6 : blk Q NB #[.int .i64 nx, .int .i64 ny] 27 := by rw [hQ]; exact (by apply blk_of; (repeat (first | with_reducible exact kN7 | with_reducible apply blk_drew | with_reducible apply blk_gw | with_reducible apply blk_alloc | with_reducible apply blk_set | ((with_reducible apply blk_other); focus omega))); (first | rfl | simp))
    have kR6 : blk Q (w.heap.size + 1) #[.int .i64 0, .int .i64 0, .slice none 0 0] 34 := by rw [hQ]; exact (by apply blk_of; (repeat (first | with_reducible exact kR7 | with_reducible apply blk_drew | with_reducible apply blk_gw | with_reducible apply blk_alloc | with_reducible apply blk_set | ((with_reducible apply blk_other); focus omega))); (first | rfl | simp))
    have hbQ : Below w.heap.size w Q := by
      have g7 : w.heap.size ≤ b7 := by omega
      rw [hQ]
      repeat (first | with_reducible exact hbY2 | with_reducible refine Below.setCell ?_ (by exact g7) _)
    have hszQ := hbQ.size
    have hRQ := blk_lt kR6
    clear hQ ok7 ck7_0 ck7_1 fk7_0 fk7_1 k7 kN7 kR7 hbY2
    have okP := blk_older kP
    have ckP_0 : _ = some _ := blk_cell kP 0
    have ckP_1 : _ = some _ := blk_cell kP 1
    have fkP_0 := blk_free kP 0
    have fkP_1 := blk_free kP 1
    have okN6 := blk_older kN6
    have ckN6_0 : _ = some _ := blk_cell kN6 0
    have ckN6_1 : _ = some _ := blk_cell kN6 1
    have fkN6_0 := blk_free kN6 0
    have fkN6_1 := blk_free kN6 1
    have okR6 := blk_older kR6
    have ckR6_0 : _ = some _ := blk_cell kR6 0
    have ckR6_1 : _ = some _ := blk_cell kR6 1
    have ckR6_2 : _ = some _ := blk_cell kR6 2
    have fkR6_0 := blk_free kR6 0
    have fkR6_1 := blk_free kR6 1
    have fkR6_2 := blk_free kR6 2
    go_wp2_with fail
    refine post_named ?_
    intro Z hZ
    have kS : blk Z Q.heap.size #[.int .i64 x, .int .i64 y, .int .i64 sp, .int .i64 0, .int .i64 0, .int .i64 0] 39 := by rw [hZ]; exact bBkn
    have kZ : blk Z (w.heap.size + 1) #[.int .i64 nx, .int .i64 ny, .slice (some ⟨Q.heap.size, 0, none⟩) 1 1] 34 := by rw [hZ]; exact (by apply blk_of; (repeat (first | with_reducible exact kR6 | with_reducible apply blk_drew | with_reducible apply blk_gw | with_reducible apply blk_alloc | with_reducible apply blk_set | ((with_reducible apply blk_other); focus omega))); (first | rfl | simp))
    have hbZ : Below w.heap.size w Z := by rw [hZ]; exact bBel
    clear hZ
    have okZ := blk_older kZ
    have ckZ_0 : _ = some _ := blk_cell kZ 0
    have ckZ_1 : _ = some _ := blk_cell kZ 1
    have ckZ_2 : _ = some _ := blk_cell kZ 2
    have fkZ_0 := blk_free kZ 0
    have fkZ_1 := blk_free kZ 1
    have fkZ_2 := blk_free kZ 2
    exact bodyPost_ret (v := .tuple #[.agg #[.int .i64 nx, .int .i64 ny, .slice (some ⟨Q.heap.size, 0, none⟩) 1 1], .bool true]) (by simp [results, Tryz.results29, go_sem, ckZ_0, ckZ_1, ckZ_2]) rfl (mnt_mk (l := [⟨x, y, sp, 0, 0, 0⟩]) (by exact decide_eq_true (by simp)) (Nat.le_refl _) (by decide) (fun h => by cases h) (cnts_one (c := ⟨x, y, sp, 0, 0, 0⟩) kS) hbZ)

end Go.Proofs.YtiecpebckmihgaaGreat
