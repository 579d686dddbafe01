/- Chapter 23: body.Equal. -/
import Derived.Test.YtdmcdicphohlfaaGreatBkN
import Derived.Test.YtdmcdicphohlfaaGreatBkE
set_option linter.unusedVariables false
set_option linter.unusedSimpArgs false
namespace Go.Proofs.YtdmcdicphohlfaaGreat
open Go.RowKit Fx Go.Maps

set_option maxRecDepth 100000 in
set_option maxHeartbeats 16000000 in
theorem xeqf_b (A B : Option Addr) (ca cb : Nat) (l m : List Fxr) (hl : l.length ≤ 1000000) (hm : m.length ≤ 1000000) (hlp : ∀ f ∈ l, f.ps.length ≤ 1000000) (hmp : ∀ f ∈ m, f.ps.length ≤ 1000000) (D : Bool) (hD0 : D = true ↔ l.map fx0 = m.map fx0) (w : World) (ha : Fxs w A l) (hb : Fxs w B m) : Calls Tryz.prog 93 #[.slice A l.length ca, .slice B m.length cb, .func (.func 94) #[] #[]] w fun e w' => e = .returned (.bool D) ∧ Below w.heap.size w w' := by
  have hD : Hid (D = true ↔ l.map fx0 = m.map fx0) := hD0
  have hlp' : Hid (∀ f ∈ l, f.ps.length ≤ 1000000) := hlp
  have hmp' : Hid (∀ f ∈ m, f.ps.length ≤ 1000000) := hmp
  clear hD0 hlp hmp
  by_cases hlm : l.length = m.length
  rotate_left
  · obtain rfl : D = false := by
      cases hq : D
      · rfl
      · exact (hlm (map_len (hD.out.1 hq))).elim
    have hne : ((l.length : Int) != (m.length : Int)) = true := by rw [bne_iff_ne]; omega
    clear hlm
    go_enter Tryz.func93, Tryz.ntmps93
    go_wp2_with fail
    go_ret
    exact ⟨rfl, bBel⟩
  have hne : ((l.length : Int) != (m.length : Int)) = false := by rw [bne_eq_false_iff_eq]; omega
  have hlm1 : l.length ≤ m.length := by omega
  have hlmH := show Hid _ from hlm
  clear hlm
  go_enter Tryz.func93, Tryz.ntmps93
  go_wp2_with fail
  go_loopw [17] (fun i wr => ∃ k : Nat, k ≤ l.length ∧ i = .int .i64 (k : Int) ∧ Hid (∀ j (h : j < l.length) (h2 : j < m.length), j < k → fx0 l[j] = fx0 m[j]) ∧ Below w.heap.size w wr) (fun i _ => l.length - (intOf i).toNat)
  case atStart => exact ⟨0, by omega, rfl, (fun j h h2 h3 => by omega), bBel⟩
  case round =>
    obtain ⟨k, hk, rfl, hall, hbR⟩ := hrel
    have hszR := hbR.size
    by_cases hlt : k < l.length
    · have hltI : (k : Int) < (l.length : Int) := by omega
      have hltm : k < m.length := by omega
      have hltmI : (k : Int) < (m.length : Int) := by omega
      obtain ⟨b1, off1, rfl, hq1, hr1⟩ := fxs_at23 ha hlt
      obtain ⟨b2, off2, rfl, hq2, hr2⟩ := fxs_at23 hb hltm
      obtain ⟨og1, hr1'⟩ := hr1 wr hbR
      have h2H := show Hid _ from hr2
      have hp1 := hlp'.out _ (List.getElem_mem hlt)
      have hp2 := hmp'.out _ (List.getElem_mem hltm)
      have hP1 := hq1.2.1
      have hP2 := hq2.2.1
      have hn2 : Hid (fx0 l[k] = fx0 m[k] → ∀ j (h : j < l.length) (h2 : j < m.length), j < k + 1 → fx0 l[j] = fx0 m[j]) := fun h2 j hj hj2 hjk => by
        rcases Nat.lt_or_eq_of_le (Nat.le_of_lt_succ hjk) with h3 | rfl
        · exact hall.out j hj hj2 h3
        · exact h2
      have hbad : Hid (¬ fx0 l[k] = fx0 m[k] → D = false) := fun h2 => by
        cases hq : D
        · rfl
        · have h9 := hD.out.1 hq
          have h10 : (l.map fx0)[k]? = (m.map fx0)[k]? := by rw [h9]
          rw [List.getElem?_map, List.getElem?_map, List.getElem?_eq_getElem hlt, List.getElem?_eq_getElem hltm] at h10
          exact (h2 (by simpa using h10)).elim
      clear hr1 hr2 hq1 hq2 hall
      generalize l[k] = f at *
      generalize m[k] = g at *
      have hr1H : Hid (wr.rangeAt b1 (off1 + k * 10) (fxc f)) := hr1'
      have hr2H : Hid (∀ w', Below w.heap.size w w' → older b2 w' = true ∧ w'.rangeAt b2 (off2 + k * 10) (fxc g)) := h2H.out
      clear hr1' h2H
      go_upto_region 6 with (first
        | (refine wpList_load_mid rfl 35 _ rfl b1 (off1 + k * 10) rfl _ _ hr1H.out Tryz.underlying35 rfl (fx_sizeC f) ?_)
        | (refine list_nm23 ?_; intro T0 hT0; have kX : blk T0 (wr.heap.size) #[.int .i64 0, .int .i64 0, .slice none 0 0, .int .i64 0, .int .i64 0, .int .i64 0, .bool false, .int .i64 0, .int .i64 0, .int .i64 0] 35 := (by rw [hT0]; exact blk_new _ _ _); have hbT0 : Below wr.heap.size wr T0 := (by rw [hT0]; exact bBel); clear hT0; refine wpList_store_wide rfl 35 _ _ rfl (wr.heap.size) (fxc f) rfl rfl _ _ kX (by kernel_rfl) (fx_sizeC f) (fx_all f) ?_; intro T kT hbT koT hzT; clear hzT))
      have hbRT : Below wr.heap.size wr T := hbT _ _ (Nat.le_refl _) hbT0
      have hbwT : Below w.heap.size w T := Below.trans hbR (hbRT.mono hszR)
      have hszT := hbwT.size
      clear hbT koT hbT0 kX hr1H og1
      obtain ⟨og2, hr2T⟩ := hr2H.out T hbwT
      have hr2TH := show Hid _ from hr2T
      clear hr2T hr2H
      have hlT := blk_lt kT
      generalize wr.heap.size = B1 at *
      try simp only [Act.put]
      go_upto_region 7 with (first
        | (refine wpList_load_mid rfl 35 _ rfl b2 (off2 + k * 10) rfl _ _ hr2TH.out Tryz.underlying35 rfl (fx_sizeC g) ?_)
        | (refine list_nm23 ?_; intro U0 hU0; have kX : blk U0 (T.heap.size) #[.int .i64 0, .int .i64 0, .slice none 0 0, .int .i64 0, .int .i64 0, .int .i64 0, .bool false, .int .i64 0, .int .i64 0, .int .i64 0] 35 := (by rw [hU0]; exact blk_new _ _ _); have hbU0 : Below T.heap.size T U0 := (by rw [hU0]; exact bBel); clear hU0; refine wpList_store_wide rfl 35 _ _ rfl (T.heap.size) (fxc g) rfl rfl _ _ kX (by kernel_rfl) (fx_sizeC g) (fx_all g) ?_; intro U kU hbU koU hzU; clear hzU))
      have hbTU : Below T.heap.size T U := hbU _ _ (Nat.le_refl _) hbU0
      have hbwU : Below w.heap.size w U := Below.trans hbwT (hbTU.mono hszT)
      have hszU := hbwU.size
      have kTU := blk_below hbTU kT
      clear hbU koU hbU0 kX hr2TH og2 kT hbTU
      have oT := blk_older kTU
      have oU := blk_older kU
      have hQf : Hid (∀ w', Below U.heap.size U w' → w'.rangeAt B1 0 (fxc f)) := fun w' h' => rng_blk23 (blk_below h' kTU)
      have hQg : Hid (∀ w', Below U.heap.size U w' → w'.rangeAt T.heap.size 0 (fxc g)) := fun w' h' => rng_blk23 (blk_below h' kU)
      have cE := fun (w' : World) (hx : Pts w' f.A f.ps ∧ Pts w' g.A g.ps) => pefx_b f g w' hp1 hp2 hx.1 hx.2
      have eg : ∀ args w, (callFunc 94 args).run Tryz.prog w = .ok (.enter 94 args) w := enters_of Tryz.func94 (by kernel_rfl) rfl
      try simp only [Act.put]
      cases he : eqFx f g
      · obtain rfl := hbad.out (fun h => by rw [(eqFx_iff f g).2 h] at he; cases he)
        rw [he] at cE
        clear he hbad hn2
        go_wp2_with (first
          | (refine wpList_load_mid rfl 35 _ rfl B1 0 rfl _ _ (hQf.out _ bBel) Tryz.underlying35 rfl (fx_sizeC f) ?_)
          | (refine wpList_load_mid rfl 35 _ rfl T.heap.size 0 rfl _ _ (hQg.out _ bBel) Tryz.underlying35 rfl (fx_sizeC g) ?_)
          | (go_at_fn 94; with_reducible_and_instances refine Calls.mono (gw_at (cE _ ⟨Pts.to hP1 bBel, Pts.to hP2 bBel⟩)) ?_; rintro e w1 ⟨rfl, q, rfl⟩))
        go_ret
        exact ⟨rfl, bBel⟩
      · have hn3 := show Hid _ from hn2.out ((eqFx_iff f g).1 he)
        rw [he] at cE
        clear he hbad hn2
        go_wp2_with (first
          | (refine wpList_load_mid rfl 35 _ rfl B1 0 rfl _ _ (hQf.out _ bBel) Tryz.underlying35 rfl (fx_sizeC f) ?_)
          | (refine wpList_load_mid rfl 35 _ rfl T.heap.size 0 rfl _ _ (hQg.out _ bBel) Tryz.underlying35 rfl (fx_sizeC g) ?_)
          | (go_at_fn 94; with_reducible_and_instances refine Calls.mono (gw_at (cE _ ⟨Pts.to hP1 bBel, Pts.to hP2 bBel⟩)) ?_; rintro e w1 ⟨rfl, q, rfl⟩))
        exact ⟨⟨k + 1, by omega, by go_num, hn3, bBel⟩, by (try go_num); simp [intOf]; (try omega)⟩
    · obtain rfl : k = l.length := by omega
      obtain rfl : D = true := hD.out.2 (List.ext_getElem (by simp [hlmH.out]) fun i h1 h2 => by
        simp at h1 h2 ⊢
        exact hall.out i h1 h2 h1)
      go_wp2_with fail
      go_ret
      exact ⟨rfl, bBel⟩

end Go.Proofs.YtdmcdicphohlfaaGreat
