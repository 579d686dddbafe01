/- Chapter 23: the reference's Validate. -/
import Derived.Test.YtdmcdicphohlfaaGreatBkJ
set_option linter.unusedVariables false
set_option linter.unusedSimpArgs false
namespace Go.Proofs.YtdmcdicphohlfaaGreat
open Go.RowKit Fx Go.Maps

set_option maxRecDepth 100000 in
set_option maxHeartbeats 64000000 in
theorem rval23_b (b : Bdy) (w : World) (ho : okL b) (h : BdIn w b) : Calls Tryz.prog 14 #[.agg (bdc b).toArray] w fun e w' => e = .returned (.int .i64 (bdV b)) ∧ Below w.heap.size w w' := by
  have hok : Hid (∀ f ∈ b.fs, f.ps.length ≤ 1000000) := ho.2
  have hll : b.fs.length ≤ 1000000 := ho.1
  clear ho
  have cR := fun w' => rinr23_b b w'
  have he1 := neq_vec0 b.vx b.vy
  have he2 := neq_vec0 b.fx b.fy
  obtain ⟨D, hD⟩ : ∃ D, bdV b = D := ⟨_, rfl⟩
  rw [hD]
  unfold bdV at hD
  by_cases hkn : known b.k = false
  focus
    rw [if_pos hkn] at hD
    subst hD
    have hk := known_not hkn
    have n1 : (b.k != 1) = true := by rw [bne_iff_ne]; omega
    have n2 : (b.k != 2) = true := by rw [bne_iff_ne]; omega
    have n3 : (b.k != 3) = true := by rw [bne_iff_ne]; omega
    clear hk hkn hok cR he1 he2
    go_enter Tryz.func14, Tryz.ntmps14
    go_upto_region 1 with fail
    refine wp_named ?_
    intro V hV
    have kb : blk V (w.heap.size) (bdc b).toArray 29 := by rw [hV]; exact bBkn
    have hbV : Below w.heap.size w V := by rw [hV]; exact bBel
    clear hV
    have hszV := hbV.size
    have ob := blk_older kb
    obtain ⟨cb0, cb1, cb2, cb3, cb4, cb5, cb6, cb7, cb8, cb9, cb10, cb11, cb12, cb13, cb14, cb15, cb16, cb17, cb18, cb19⟩ := bd_cells kb
    go_wp2_with fail
    go_ret
    exact ⟨rfl, bBel⟩
  rw [if_neg hkn] at hD
  have hk3 : b.k = 1 ∨ b.k = 2 ∨ b.k = 3 := known_of (by cases hq : known b.k <;> simp_all)
  clear hkn
  obtain ⟨IR, hIR⟩ : ∃ IR, (motB b && parB b) = IR := ⟨_, rfl⟩
  rw [hIR] at hD
  have cR' := fun w' => boolIs (cR w') hIR
  clear cR hIR
  have hMv : Hid (movB b = ((b.vx != 0 || b.vy != 0) || b.av != 0)) := rfl
  have hPv : Hid (pulB b = ((b.fx != 0 || b.fy != 0) || b.tq != 0)) := rfl
  unfold suitB at hD
  obtain ⟨M, hM⟩ : ∃ M, movB b = M := ⟨_, rfl⟩
  obtain ⟨P, hP⟩ : ∃ P, pulB b = P := ⟨_, rfl⟩
  rw [hM, hP] at hD
  have hMv2 : Hid (((b.vx != 0 || b.vy != 0) || b.av != 0) = M) := by show _ = _; rw [← hMv.out, hM]
  have hPv2 : Hid (((b.fx != 0 || b.fy != 0) || b.tq != 0) = P) := by show _ = _; rw [← hPv.out, hP]
  clear hM hP hMv hPv
  obtain ⟨sa, hsa⟩ : ∃ sa, b.asl = sa := ⟨_, rfl⟩
  obtain ⟨sb, hsb⟩ : ∃ sb, b.bul = sb := ⟨_, rfl⟩
  obtain ⟨s1, hs1⟩ : ∃ s1, (b.k == 1) = s1 := ⟨_, rfl⟩
  obtain ⟨s3, hs3⟩ : ∃ s3, (b.k == 3) = s3 := ⟨_, rfl⟩
  rw [hsa, hsb, hs1, hs3] at hD
  obtain ⟨n1, hn1⟩ : ∃ n1, (b.k != 1) = n1 := ⟨_, rfl⟩
  obtain ⟨n2, hn2⟩ : ∃ n2, (b.k != 2) = n2 := ⟨_, rfl⟩
  obtain ⟨n3, hn3⟩ : ∃ n3, (b.k != 3) = n3 := ⟨_, rfl⟩
  have hkk : Hid ((s1 = true ∧ s3 = false ∧ n1 = false ∧ n3 = true) ∨ (s1 = false ∧ s3 = false ∧ n1 = true ∧ n2 = false ∧ n3 = true) ∨ (s1 = false ∧ s3 = true ∧ n1 = true ∧ n2 = true ∧ n3 = false)) := by
    rcases hk3 with e | e | e <;> rw [e] at hs1 hs3 hn1 hn2 hn3 <;> subst hs1 hs3 hn1 hn2 hn3 <;> simp [Hid]
  clear hk3
  cases IR with
  | false =>
    rw [if_pos rfl] at hD
    subst hD
    clear hok he1 he2 hMv2 hPv2
    rcases hkk.out with ⟨rfl, rfl, rfl, rfl⟩ | ⟨rfl, rfl, rfl, rfl, rfl⟩ | ⟨rfl, rfl, rfl, rfl, rfl⟩
    all_goals
      clear hkk
    all_goals
      go_enter Tryz.func14, Tryz.ntmps14
      go_upto_region 1 with fail
      refine wp_named ?_
      intro V hV
      have kb : blk V (w.heap.size) (bdc b).toArray 29 := by rw [hV]; exact bBkn
      have hbV : Below w.heap.size w V := by rw [hV]; exact bBel
      clear hV
      have hszV := hbV.size
      have ob := blk_older kb
      obtain ⟨cb0, cb1, cb2, cb3, cb4, cb5, cb6, cb7, cb8, cb9, cb10, cb11, cb12, cb13, cb14, cb15, cb16, cb17, cb18, cb19⟩ := bd_cells kb
      have hQb : Hid (∀ w', Below V.heap.size V w' → w'.rangeAt (w.heap.size) 0 (bdc b)) := fun w' h' => rng_blk23 (blk_below h' kb)
      go_wp2_with (first | (refine wpList_load_g (by rfl) 29 _ rfl (w.heap.size) 0 rfl _ _ (hQb.out _ bBel) Tryz.underlying29 rfl (bd_sizeC b) ?_) | (go_at_call 58; with_reducible_and_instances refine Calls.mono (gw_at (cR' _)) ?_; rintro e w1 ⟨rfl, q, rfl⟩))
      go_ret
      exact ⟨rfl, bBel⟩
  | true =>
    rw [if_neg (by decide)] at hD
    by_cases h4 : 4 < b.fs.length
    focus
      rw [if_pos h4] at hD
      subst hD
      have h4I : (4 : Int) < (b.fs.length : Int) := by omega
      clear hok he1 he2 hMv2 hPv2
      rcases hkk.out with ⟨rfl, rfl, rfl, rfl⟩ | ⟨rfl, rfl, rfl, rfl, rfl⟩ | ⟨rfl, rfl, rfl, rfl, rfl⟩
      all_goals
        clear hkk
      all_goals
        go_enter Tryz.func14, Tryz.ntmps14
        go_upto_region 1 with fail
        refine wp_named ?_
        intro V hV
        have kb : blk V (w.heap.size) (bdc b).toArray 29 := by rw [hV]; exact bBkn
        have hbV : Below w.heap.size w V := by rw [hV]; exact bBel
        clear hV
        have hszV := hbV.size
        have ob := blk_older kb
        obtain ⟨cb0, cb1, cb2, cb3, cb4, cb5, cb6, cb7, cb8, cb9, cb10, cb11, cb12, cb13, cb14, cb15, cb16, cb17, cb18, cb19⟩ := bd_cells kb
        have hQb : Hid (∀ w', Below V.heap.size V w' → w'.rangeAt (w.heap.size) 0 (bdc b)) := fun w' h' => rng_blk23 (blk_below h' kb)
        go_wp2_with (first | (refine wpList_load_g (by rfl) 29 _ rfl (w.heap.size) 0 rfl _ _ (hQb.out _ bBel) Tryz.underlying29 rfl (bd_sizeC b) ?_) | (go_at_call 58; with_reducible_and_instances refine Calls.mono (gw_at (cR' _)) ?_; rintro e w1 ⟨rfl, q, rfl⟩))
        go_ret
        exact ⟨rfl, bBel⟩
    rw [if_neg h4] at hD
    have h4I : ¬ (4 : Int) < (b.fs.length : Int) := by omega
    have h4D : decide ((4 : Int) < (b.fs.length : Int)) = false := by simp; omega
    obtain ⟨N, hN⟩ : ∃ N, (b.fs.any fun f => fxV f != 0) = N := ⟨_, rfl⟩
    have hNH : Hid ((b.fs.any fun f => fxV f != 0) = N) := hN
    rw [hN] at hD
    clear hN
    have hDH := show Hid _ from hD
    clear hD
    rcases hkk.out with ⟨rfl, rfl, rfl, rfl⟩ | ⟨rfl, rfl, rfl, rfl, rfl⟩ | ⟨rfl, rfl, rfl, rfl, rfl⟩
    all_goals
      clear hkk
    all_goals
      go_enter Tryz.func14, Tryz.ntmps14
      go_upto_region 1 with fail
      refine wp_named ?_
      intro V hV
      have kb : blk V w.heap.size (bdc b).toArray 29 := by rw [hV]; exact bBkn
      have hbV : Below w.heap.size w V := by rw [hV]; exact bBel
      clear hV
      have hszV := hbV.size
      have ob := blk_older kb
      obtain ⟨cb0, cb1, cb2, cb3, cb4, cb5, cb6, cb7, cb8, cb9, cb10, cb11, cb12, cb13, cb14, cb15, cb16, cb17, cb18, cb19⟩ := bd_cells kb
      have hQb : Hid (∀ w', Below V.heap.size V w' → w'.rangeAt (w.heap.size) 0 (bdc b)) := fun w' h' => rng_blk23 (blk_below h' kb)
      have hF : Fxs V b.A b.fs := (h.to hbV).1
      clear h
      obtain ⟨A0, hA0⟩ : ∃ A0, b.A = A0 := ⟨_, rfl⟩
      rw [hA0] at hF cb19
      have hA0H : Hid (b.A = A0) := hA0
      clear hA0
      go_wp2_with (first | (refine wpList_load_g (by rfl) 29 _ rfl (w.heap.size) 0 rfl _ _ (hQb.out _ bBel) Tryz.underlying29 rfl (bd_sizeC b) ?_) | (go_at_call 58; with_reducible_and_instances refine Calls.mono (gw_at (cR' _)) ?_; rintro e w1 ⟨rfl, q, rfl⟩))
      go_loopw [3] (fun i wr => ∃ k : Nat, k ≤ b.fs.length ∧ i = .int .i64 (k : Int) ∧ Hid (∀ j (h : j < b.fs.length), j < k → fxV b.fs[j] = 0) ∧ Below V.heap.size V wr) (fun i _ => b.fs.length - (intOf i).toNat)
      case atStart => exact ⟨0, by omega, rfl, (fun j h h2 => by omega), bBel⟩
      case round =>
        obtain ⟨k, hk, rfl, hall, hbR⟩ := hrel
        have hszR := hbR.size
        have hbwR : Below w.heap.size w wr := Below.trans hbV (hbR.mono hszV)
        have kbR := blk_below hbR kb
        clear cb0 cb1 cb2 cb3 cb4 cb5 cb6 cb7 cb8 cb9 cb10 cb11 cb12 cb13 cb14 cb15 cb16 cb17 cb18 cb19 ob hQb
        obtain ⟨cR0, cR1, cR2, cR3, cR4, cR5, cR6, cR7, cR8, cR9, cR10, cR11, cR12, cR13, cR14, cR15, cR16, cR17, cR18, cR19⟩ := bd_cells kbR
        have oB := blk_older kbR
        rw [hA0H.out] at cR19
        by_cases hlt : k < b.fs.length
        · have hltI : (k : Int) < (b.fs.length : Int) := by omega
          obtain ⟨b2, off2, rfl, hq, hr0⟩ := fxs_at23 hF hlt
          obtain ⟨og, hr⟩ := hr0 wr hbR
          have hps := hok.out _ (List.getElem_mem hlt)
          have hn2 : Hid (fxV b.fs[k] = 0 → ∀ j (h : j < b.fs.length), j < k + 1 → fxV b.fs[j] = 0) := fun h2 j hj hjk => by
            rcases Nat.lt_or_eq_of_le (Nat.le_of_lt_succ hjk) with h3 | rfl
            · exact hall.out j hj h3
            · exact h2
          have hbad : Hid (¬ fxV b.fs[k] = 0 → N = true) := fun h2 => by
            rw [← hNH.out, List.any_eq_true]; exact ⟨_, List.getElem_mem hlt, by simpa using h2⟩
          have hPf := hq.2.1
          clear hr0 hq hall
          generalize b.fs[k] = f at *
          have hrH : Hid (wr.rangeAt b2 (off2 + k * 10) (fxc f)) := hr
          have cV := fun w' h => rvf_b f w' hps h
          clear hr
          by_cases hz : fxV f = 0
          · have hn3 := show Hid _ from hn2.out hz
            rw [hz] at cV
            clear hn2 hbad hz he1 he2 hMv2 hPv2
            go_wp2_with (first
              | (refine wpList_load_mid rfl 35 _ rfl b2 (off2 + k * 10) rfl _ _ hrH.out Tryz.underlying35 rfl (fx_sizeC f) ?_)
              | (go_at_call 16; refine Calls.mono (gw_at (cV _ (Pts.to hPf bBel))) ?_; rintro e w1 ⟨rfl, q, rfl⟩))
            exact ⟨⟨k + 1, by omega, by go_num, hn3, bBel⟩, by (try go_num); simp [intOf]; (try omega)⟩
          · obtain rfl := hbad.out hz
            have hD2 := hDH.out
            rw [if_pos rfl] at hD2
            subst hD2
            have hzb : (fxV f != 0) = true := by rw [bne_iff_ne]; exact hz
            clear hn2 hbad hz he1 he2 hMv2 hPv2 hDH hNH
            generalize fxV f = v at *
            go_wp2_with (first
              | (refine wpList_load_mid rfl 35 _ rfl b2 (off2 + k * 10) rfl _ _ hrH.out Tryz.underlying35 rfl (fx_sizeC f) ?_)
              | (go_at_call 16; refine Calls.mono (gw_at (cV _ (Pts.to hPf bBel))) ?_; rintro e w1 ⟨rfl, q, rfl⟩))
            go_ret
            exact ⟨rfl, bBel⟩
        · obtain rfl : k = b.fs.length := by omega
          obtain rfl : N = false := by
            cases hq : N
            · rfl
            · have h9 := hNH.out
              rw [hq, List.any_eq_true] at h9
              obtain ⟨f, hf, hz⟩ := h9
              obtain ⟨i, hi, rfl⟩ := List.mem_iff_getElem.1 hf
              rw [hall.out i hi hi] at hz; simp at hz
          have hD2 := hDH.out
          rw [if_neg (by decide)] at hD2
          have hD3 := show Hid _ from hD2
          clear hDH hNH hD2 hall
          rw [hsb] at cR14
          rw [hsa] at cR17
          go_upto_region 12 with fail
          go_cut [4] (fun c wx => c = .bool M ∧ wx = wr)
          case first =>
            have hm := hMv2.out
            clear he2 hPv2 hMv2
            obtain ⟨x1, hx1⟩ : ∃ x1, (b.vx != 0 || b.vy != 0) = x1 := ⟨_, rfl⟩
            obtain ⟨x2, hx2⟩ : ∃ x2, (b.av != 0) = x2 := ⟨_, rfl⟩
            rw [hx1, hx2] at hm
            rw [hx1] at he1
            clear hx1
            subst hm
            cases x1
            all_goals
              cases x2
            all_goals
              go_wp2_with fail
            all_goals
              go_meet
              exact ⟨rfl, rfl⟩
          case rest =>
          obtain ⟨rfl, rfl⟩ := hcut
          generalize wc = X at *
          clear he1 hMv2
          go_upto_region 13 with fail
          go_cut [5] (fun c wx => c = .bool P ∧ wx = X)
          case first =>
            have hm := hPv2.out
            clear hPv2
            obtain ⟨x1, hx1⟩ : ∃ x1, (b.fx != 0 || b.fy != 0) = x1 := ⟨_, rfl⟩
            obtain ⟨x2, hx2⟩ : ∃ x2, (b.tq != 0) = x2 := ⟨_, rfl⟩
            rw [hx1, hx2] at hm
            rw [hx1] at he2
            clear hx1
            subst hm
            cases x1
            all_goals
              cases x2
            all_goals
              go_wp2_with fail
            all_goals
              go_meet
              exact ⟨rfl, rfl⟩
          case rest =>
          obtain ⟨rfl, rfl⟩ := hcut
          generalize wc = Y at *
          clear he2 hPv2
          have hD4 := hD3.out
          clear hD3 hn2
          cases sa
          all_goals
            cases sb
          all_goals
            cases M
          all_goals
            cases P
          all_goals
            simp at hD4
            subst hD4
          all_goals
            go_wp2_with fail
            go_ret
            exact ⟨rfl, bBel⟩


end Go.Proofs.YtdmcdicphohlfaaGreat
