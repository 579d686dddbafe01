/- Chapter 23: FixtureAt, the program's and the reference's. -/
import Derived.Test.YtdmcdicphohlfaaGreatBkG
set_option linter.unusedVariables false
set_option linter.unusedSimpArgs false
namespace Go.Proofs.YtdmcdicphohlfaaGreat
open Go.RowKit Fx Go.Maps

set_option maxRecDepth 100000 in
set_option maxHeartbeats 16000000 in
theorem pfa1_b (f : Fxr) (b : Bdy) (x y : Int) (pb pp : Nat) (w : World) (hl : f.ps.length ≤ 1000000) (hk : f.ps.length ≤ f.cap) (hp : Pts w f.A f.ps) (kb : blk w pb (bdc b).toArray 29) (kp : blk w pp #[.int .i64 x, .int .i64 y] 24) : Calls Tryz.prog 81 #[.agg (fxc f).toArray, .pointer (some ⟨pb, 0, none⟩), .pointer (some ⟨pp, 0, none⟩)] w fun e w' => e = .returned (.bool (fat b x y f)) ∧ Below w.heap.size w w' := by
  have cC := fun w' h => ycon_b f.K f.R f.A f.cap f.ps b.px b.py b.pa x y hl w' h hk
  have hF : Hid (conS f.K f.R f.ps b.px b.py b.pa x y = fat b x y f) := rfl
  rw [hF.out] at cC
  generalize fat b x y f = D at *
  clear hF
  go_enter Tryz.func81, Tryz.ntmps81
  go_upto_region 1 with fail
  refine wp_named ?_
  intro V hV
  have kf : blk V (w.heap.size) (fxc f).toArray 35 := by rw [hV]; exact bBkn
  have hbV : Below w.heap.size w V := by rw [hV]; exact bBel
  clear hV
  have hszV := hbV.size
  have of := blk_older kf
  obtain ⟨cf0, cf1, cf2, cf3, cf4, cf5, cf6, cf7, cf8, cf9⟩ := fx_cells kf
  have kbV := blk_below hbV kb
  have kpV := blk_below hbV kp
  have ob := blk_older kbV
  have op := blk_older kpV
  obtain ⟨cb0, cb1, cb2, cb3, cb4, cb5, cb6, cb7, cb8, cb9, cb10, cb11, cb12, cb13, cb14, cb15, cb16, cb17, cb18, cb19⟩ := bd_cells kbV
  have cp0 : V.cell? ⟨pp, 0, none⟩ = some (.int .i64 x) := blk_cell kpV 0
  have cp1 : V.cell? ⟨pp, 1, none⟩ = some (.int .i64 y) := blk_cell kpV 1
  go_wp2_with (first | (go_at_call 38; with_reducible_and_instances refine Calls.mono (gw_at (cC _ (Pts.to hp bBel))) ?_; rintro e w1 ⟨rfl, q, rfl⟩))
  go_ret
  exact ⟨rfl, bBel⟩

set_option maxRecDepth 100000 in
set_option maxHeartbeats 16000000 in
theorem pfa_b (b : Bdy) (x y : Int) (w : World) (ho : okL b) (h : BdIn w b) : Calls Tryz.prog 27 #[.agg (bdc b).toArray, .agg #[.int .i64 x, .int .i64 y]] w fun e w' => e = .returned (.int .i64 (fxat b x y)) ∧ Below w.heap.size w w' := by
  have hok : Hid (∀ f ∈ b.fs, f.ps.length ≤ 1000000) := ho.2
  have hll := ho.1
  clear ho
  obtain ⟨D, hD0⟩ : ∃ D, fxat b x y = D := ⟨_, rfl⟩
  rw [hD0]
  have hDH := show Hid _ from hD0
  clear hD0
  go_enter Tryz.func27, Tryz.ntmps27
  go_upto_region 1 with fail
  refine wp_named ?_
  intro V hV
  have kb : blk V (w.heap.size) (bdc b).toArray 29 := by rw [hV]; exact bBkn
  have kp : blk V (w.heap.size + 1) #[.int .i64 x, .int .i64 y] 24 := by rw [hV]; exact bBkn
  have hbV : Below w.heap.size w V := by rw [hV]; exact bBel
  clear hV
  have hszV := hbV.size
  have ob := blk_older kb
  obtain ⟨cb0, cb1, cb2, cb3, cb4, cb5, cb6, cb7, cb8, cb9, cb10, cb11, cb12, cb13, cb14, cb15, cb16, cb17, cb18, cb19⟩ := bd_cells kb
  have op := blk_older kp
  have cp0 := blk_cell kp 0
  have cp1 := blk_cell kp 1
  have hF : Fxs V b.A b.fs := (h.to hbV).1
  clear h
  have cI := xif23n_b b.A b.cap b.fs (fat b x y) 81 #[.pointer (some ⟨w.heap.size, 0, none⟩), .pointer (some ⟨w.heap.size + 1, 0, none⟩)] (by omega) (enters_of Tryz.func81 (by kernel_rfl) rfl) V (fun W hW f hf => by
    have hFW := Fxs.to hF hW
    obtain ⟨i, hi, rfl⟩ := List.mem_iff_getElem.1 hf
    obtain ⟨_, _, _, hq, _⟩ := fxs_at23 hFW hi
    exact pfa1_b _ b x y _ _ W (hok.out _ (List.getElem_mem hi)) hq.2.2.2.1 hq.2.1 (blk_below hW kb) (blk_below hW kp)) hF
  have cI2 : Calls Tryz.prog 80 #[.slice b.A b.fs.length b.cap, .func (.func 81) #[] #[.pointer (some ⟨w.heap.size, 0, none⟩), .pointer (some ⟨w.heap.size + 1, 0, none⟩)]] V fun e w' => e = .returned (.int .i64 (fxat b x y)) ∧ Below V.heap.size V w' := cI
  clear cI hok
  rw [hDH.out] at cI2
  go_wp2_with (go_at_call 80; refine Calls.mono (gw_at cI2) ?_; rintro e w1 ⟨rfl, q, rfl⟩)
  go_ret
  exact ⟨rfl, bBel⟩

set_option maxRecDepth 100000 in
set_option maxHeartbeats 16000000 in
theorem rfa_b (b : Bdy) (x y : Int) (w : World) (ho : okL b) (h : BdIn w b) : Calls Tryz.prog 28 #[.agg (bdc b).toArray, .agg #[.int .i64 x, .int .i64 y]] w fun e w' => e = .returned (.int .i64 (fxat b x y)) ∧ Below w.heap.size w w' := by
  have hok : Hid (∀ f ∈ b.fs, f.ps.length ≤ 1000000) := ho.2
  have hll := ho.1
  clear ho
  obtain ⟨D, hD0⟩ : ∃ D, fxat b x y = D := ⟨_, rfl⟩
  rw [hD0]
  have hcs := fxat_cases b x y
  rw [hD0] at hcs
  have hcase := show Hid _ from hcs
  clear hcs hD0
  go_enter Tryz.func28, Tryz.ntmps28
  go_upto_region 1 with fail
  refine wp_named ?_
  intro V hV
  have kb : blk V (w.heap.size) (bdc b).toArray 29 := by rw [hV]; exact bBkn
  have kp : blk V (w.heap.size + 1) #[.int .i64 x, .int .i64 y] 24 := by rw [hV]; exact bBkn
  have hbV : Below w.heap.size w V := by rw [hV]; exact bBel
  clear hV
  have hszV := hbV.size
  have ob := blk_older kb
  obtain ⟨cb0, cb1, cb2, cb3, cb4, cb5, cb6, cb7, cb8, cb9, cb10, cb11, cb12, cb13, cb14, cb15, cb16, cb17, cb18, cb19⟩ := bd_cells kb
  have op := blk_older kp
  have cp0 := blk_cell kp 0
  have cp1 := blk_cell kp 1
  have hF : Fxs V b.A b.fs := (h.to hbV).1
  clear h
  obtain ⟨A0, hA0⟩ : ∃ A0, b.A = A0 := ⟨_, rfl⟩
  rw [hA0] at hF cb19
  have hA0H : Hid (b.A = A0) := hA0
  clear hA0
  go_wp2_with fail
  go_loopw [5] (fun i wr => ∃ k : Nat, k ≤ b.fs.length ∧ i = .int .i64 (k : Int) ∧ Hid (∀ j (h : j < b.fs.length), j < k → fat b x y b.fs[j] = false) ∧ Below V.heap.size V wr) (fun i _ => b.fs.length - (intOf i).toNat)
  case atStart => exact ⟨0, by omega, rfl, (fun j h h2 => by omega), bBel⟩
  case round =>
    obtain ⟨k, hk, rfl, hall, hbR⟩ := hrel
    have hszR := hbR.size
    have hbwR : Below w.heap.size w wr := Below.trans hbV (hbR.mono hszV)
    have kbR := blk_below hbR kb
    have kpR := blk_below hbR kp
    clear cb0 cb1 cb2 cb3 cb4 cb5 cb6 cb7 cb8 cb9 cb10 cb11 cb12 cb13 cb14 cb15 cb16 cb17 cb18 cb19 ob op cp0 cp1
    obtain ⟨cR0, cR1, cR2, cR3, cR4, cR5, cR6, cR7, cR8, cR9, cR10, cR11, cR12, cR13, cR14, cR15, cR16, cR17, cR18, cR19⟩ := bd_cells kbR
    have oB := blk_older kbR
    have oP := blk_older kpR
    have cp0 : wr.cell? ⟨w.heap.size + 1, 0, none⟩ = some (.int .i64 x) := blk_cell kpR 0
    have cp1 : wr.cell? ⟨w.heap.size + 1, 1, none⟩ = some (.int .i64 y) := blk_cell kpR 1
    rw [hA0H.out] at cR19
    by_cases hlt : k < b.fs.length
    · have hltI : (k : Int) < (b.fs.length : Int) := by omega
      have hk0 : (0 : Int) ≤ (k : Int) := by omega
      obtain ⟨b2, off2, rfl, hq, hr0⟩ := fxs_at23 hF hlt
      obtain ⟨og, hr⟩ := hr0 wr hbR
      have hps := hok.out _ (List.getElem_mem hlt)
      have hn2 : Hid (fat b x y b.fs[k] = false → ∀ j (h : j < b.fs.length), j < k + 1 → fat b x y b.fs[j] = false) := fun h2 j hj hjk => by
        rcases Nat.lt_or_eq_of_le (Nat.le_of_lt_succ hjk) with h3 | rfl
        · exact hall.out j hj h3
        · exact h2
      have hgd : Hid (fat b x y b.fs[k] = true → D = (k : Int)) := fun h2 => by
        rcases hcase.out with ⟨_, h3⟩ | ⟨i, hi, h3, h4, h5⟩
        · rw [h3 _ (List.getElem_mem hlt)] at h2; cases h2
        · rcases Nat.lt_trichotomy i k with h6 | rfl | h6
          · rw [hall.out i hi h6] at h4; cases h4
          · exact h3
          · rw [h5 k hlt h6] at h2; cases h2
      have hPk := Pts.to hq.2.1 hbR
      have cC0 := fun (w' : World) (hx : Pts w' b.fs[k].A b.fs[k].ps) => rcon_b b.fs[k].K b.fs[k].R b.fs[k].A b.fs[k].cap b.fs[k].ps b.px b.py b.pa x y (Nat.le_trans hps (by decide)) w' hx
      have hFt : Hid (conS b.fs[k].K b.fs[k].R b.fs[k].ps b.px b.py b.pa x y = fat b x y b.fs[k]) := rfl
      rw [hFt.out] at cC0
      obtain ⟨d0, d1, d2, -, -, -, -, -, -, -⟩ := fx_range hr
      clear hr hr0 hq hall hFt
      cases hft : fat b x y b.fs[k]
      all_goals
        rw [hft] at cC0
      · have hn3 := show Hid _ from hn2.out hft
        clear hn2 hgd hft
        generalize b.fs[k].K = K2 at *
        generalize b.fs[k].R = R2 at *
        generalize b.fs[k].A = A2 at *
        generalize b.fs[k].cap = c2 at *
        generalize b.fs[k].ps = p2 at *
        go_upto_region 4 with fail
        refine wp_region_gw (by kernel_rfl) (by kernel_rfl) ?_
        repeat (first | go_big_quiet_step ((first | (go_at_call 82; with_reducible_and_instances exact gw_call (cC0 _ (Pts.to hPk bBel))))))
        refine wpQuiet_nil ?_
        intro w1 hw1
        obtain ⟨q, rfl⟩ := hw1
        go_wp2_with fail
        exact ⟨⟨k + 1, by omega, by go_num, hn3, bBel⟩, by (try go_num); simp [intOf]; (try omega)⟩
      · obtain rfl := hgd.out hft
        clear hn2 hgd hft hcase
        generalize b.fs[k].K = K2 at *
        generalize b.fs[k].R = R2 at *
        generalize b.fs[k].A = A2 at *
        generalize b.fs[k].cap = c2 at *
        generalize b.fs[k].ps = p2 at *
        go_upto_region 4 with fail
        refine wp_region_gw (by kernel_rfl) (by kernel_rfl) ?_
        repeat (first | go_big_quiet_step ((first | (go_at_call 82; with_reducible_and_instances exact gw_call (cC0 _ (Pts.to hPk bBel))))))
        refine wpQuiet_nil ?_
        intro w1 hw1
        obtain ⟨q, rfl⟩ := hw1
        go_wp2_with fail
        go_ret
        exact ⟨rfl, bBel⟩
    · obtain rfl : k = b.fs.length := by omega
      obtain rfl : D = -1 := by
        rcases hcase.out with ⟨h3, _⟩ | ⟨i, hi, h3, h4, h5⟩
        · exact h3
        · rw [hall.out i hi hi] at h4; cases h4
      have hne : ¬ (b.fs.length : Int) < (b.fs.length : Int) := by omega
      go_wp2_with fail
      go_ret
      exact ⟨rfl, bBel⟩


end Go.Proofs.YtdmcdicphohlfaaGreat
