/- Chapter 21, the landed code: distinct, MergePairs, SubtractPairs. -/
import Derived.Test.YtfhhkabdeajieaaSpF
import Derived.Test.YtfhhkabdeajieaaSpC
set_option linter.unusedVariables false
set_option linter.unusedSimpArgs false
namespace Go.Proofs.Ytfhhkabdeajieaa
open Go.RowKit Fx Go.Maps

theorem compP0_b (w : World) : Calls Try.prog 54 #[.slice none 0 0] w fun e w' => e = .returned (.slice none 0 0) ∧ Below w.heap.size w w' := by
  go_enter Try.func54, Try.ntmps54
  go_wp2_with fail
  go_ret
  exact ⟨rfl, bBel⟩

theorem rowP_of {w : World} {B g cap n : Nat} {t : TypeId} {l : List Pr} (h : w.ownsRow B t 2 (.slice (some ⟨g, 0, none⟩) n cap) n (pv l)) : RowP w g l t := by
  obtain ⟨hl, ⟨h0, -⟩ | ⟨g', cap', cur, hv, hb, hh, hn, hm, hc, ht⟩⟩ := h
  · cases h0
  · simp only [Value.slice.injEq, Option.some.injEq, Addr.mk.injEq, and_true, true_and] at hv
    obtain ⟨rfl, rfl⟩ := hv
    refine ⟨cur, hh, fun i hi => ?_⟩
    have hi2 : i < n * 2 := by rw [← hl, pv_len20]; exact hi
    rw [← ht, List.getElem?_take, if_pos hi2, Array.getElem?_toList]

set_option maxRecDepth 100000 in
set_option maxHeartbeats 4000000 in
theorem dist_b (B : Nat) (v : Value) (l : List Pr) (hl : l.length ≤ 1000000) (w : World) (hBw : B ≤ w.heap.size) (hown : w.ownsRow B 44 2 v l.length (pv l)) : Calls Try.prog 34 #[v] w fun e w' => (∃ A cap, e = .returned (.slice A (mrg l).length cap) ∧ (mrg l).length ≤ cap ∧ (A = none → cap = 0) ∧ Pts w' A (mrg l)) ∧ Below B w w' := by
  have hdd : Hid (ddp (srP l) = mrg l) := ddp_mrg (srP_sorted l) fun x => (srP_perm l).mem_iff
  have hsl := srP_len l
  obtain ⟨hll, ⟨rfl, hz⟩ | ⟨g, cap, cur, rfl, hbase, hgb, r1, r2, r3, r4⟩⟩ := id hown
  · have hxs : l = [] := List.eq_nil_of_length_eq_zero hz
    subst hxs
    go_enter Try.func34, Try.ntmps34
    go_wp2_with (first | (go_at_call 39; refine Calls.mono (sortP_b B _ [] _ (by simp) hown) ?_; rintro e w1 ⟨rfl, hown1, hb1, -⟩) | (go_at_call 54; refine Calls.mono (compP0_b _) ?_; rintro e w2 ⟨rfl, hb2⟩))
    go_ret
    exact ⟨⟨none, 0, rfl, by simp [mrg], fun _ => rfl, .inl rfl⟩, Below.trans hb1 (hb2.mono (by have := hb1.size; omega))⟩
  · obtain ⟨R, hR⟩ : ∃ R, Hid (mrg l = R) := ⟨_, rfl⟩
    rw [hR.out]
    go_enter Try.func34, Try.ntmps34
    go_wp2_with (first | (go_at_call 39; refine Calls.mono (sortP_b B _ l _ hl hown) ?_; rintro e w1 ⟨rfl, hown1, hb1, -⟩; have hrw := rowP_of hown1; clear hown1) | (go_at_call 54; have cC := compP_b g cap (srP l) (by omega) (by omega) _ hrw; rw [hdd.out, hR.out, hsl] at cC; refine Calls.mono cC ?_; rintro e w2 ⟨rfl, hrw2, hg2⟩))
    go_ret
    have hlen : (ddp (srP l)).length = R.length := by rw [hdd.out, hR.out]
    refine ⟨⟨_, _, rfl, ?_, fun h => (by cases h), hrw2.pts⟩, Below.trans hb1 ⟨hg2.os, hg2.tape, hg2.output, hg2.size, fun k hk => hg2.block k (by have := hb1.size; omega) (by simp; omega)⟩⟩
    have := ddp_len (srP l); omega

set_option maxRecDepth 100000 in
set_option maxHeartbeats 4000000 in
theorem mrgP_b (A1 A2 : Option Addr) (c1 c2 : Nat) (a b : List Pr) (h1 : a.length ≤ 1000) (h2 : b.length ≤ 1000) (hA1 : A1 = none → c1 = 0) (hA2 : A2 = none → c2 = 0) (w : World) (hp1 : Pts w A1 a) (hp2 : Pts w A2 b) : Calls Try.prog 15 #[.slice A1 a.length c1, .slice A2 b.length c2] w fun e w' => (∃ A cap, e = .returned (.slice A (mrg (a ++ b)).length cap) ∧ (mrg (a ++ b)).length ≤ cap ∧ (A = none → cap = 0) ∧ Pts w' A (mrg (a ++ b))) ∧ Below w.heap.size w w' := by
  obtain ⟨R, hR⟩ : ∃ R, Hid (mrg (a ++ b) = R) := ⟨_, rfl⟩
  rw [hR.out]
  have hl3 : (a ++ b).length = a.length + b.length := List.length_append
  go_enter Try.func15, Try.ntmps15
  go_wp2_with (first | (go_at_call 35; refine Calls.mono (catP_b _ A1 A2 a.length c1 b.length c2 a b rfl rfl (by omega) (by omega) hA1 hA2 _ 40 bBkn (Pts.to hp1 bBel) (Pts.to hp2 bBel)) ?_; rintro e w1 ⟨⟨v, rfl, hown0⟩, hb1⟩; rw [← hl3] at hown0; have hbq : Below w.heap.size w w1 := Below.trans ((Below.refl _ w).alloc (Nat.le_refl _) _) (Below.mono hb1 (by simp)); have hown := owns_base hown0 (show w.heap.size ≤ _ by simp); clear hown0 hb1) | (go_at_call 34; refine Calls.mono (dist_b w.heap.size v (a ++ b) (by omega) _ hbq.size hown) ?_; rw [hR.out]; rintro e w2 ⟨⟨A, cap, rfl, hn, hnil, hp⟩, hb2⟩))
  go_ret
  exact ⟨⟨A, cap, rfl, hn, hnil, hp⟩, Below.trans hbq hb2⟩

theorem cont_snoc (l : List Pr) (x : Pr) : (fun y => decide (y = x) || l.contains y) = fun y => (l ++ [x]).contains y := by
  funext y
  rw [Bool.eq_iff_iff]
  simp [or_comm]

set_option maxRecDepth 100000 in
set_option maxHeartbeats 8000000 in
theorem sbtP_b (A1 A2 : Option Addr) (c1 c2 : Nat) (a b : List Pr) (h1 : a.length ≤ 1000) (h2 : b.length ≤ 1000) (ka : ∀ p ∈ a, okP p) (kb : ∀ p ∈ b, okP p) (w : World) (hp1 : Pts w A1 a) (hp2 : Pts w A2 b) : Calls Try.prog 17 #[.slice A1 a.length c1, .slice A2 b.length c2] w fun e w' => (∃ A cap, e = .returned (.slice A (mrg (sbt a b)).length cap) ∧ (mrg (sbt a b)).length ≤ cap ∧ (A = none → cap = 0) ∧ Pts w' A (mrg (sbt a b))) ∧ Below w.heap.size w w' := by
  have ka' : Hid (∀ p ∈ a, okP p) := ka
  have kb' : Hid (∀ p ∈ b, okP p) := kb
  clear ka kb
  obtain ⟨R, hR⟩ : ∃ R, Hid (mrg (sbt a b) = R) := ⟨_, rfl⟩
  rw [hR.out]
  obtain ⟨i0, hi, hz0, hz1, hz2⟩ := info_parts info_pair
  have hmm := @run_makeMap Try.prog
  go_enter Try.func17, Try.ntmps17
  go_upto_region 2 with fail
  refine wp_named ?_
  intro W hW
  have hbW : Below w.heap.size w W := by rw [hW]; exact bBel
  have hM0 : BMap 44 klP okP W w.heap.size (fun y => (b.take 0).contains y) 0 := by rw [hW]; exact (BMap.new 44 klP okP w).congr (funext fun y => by simp)
  clear hW hmm
  go_wp2_with fail
  go_loopw [14] (fun i wr => ∃ k : Nat, k ≤ b.length ∧ i = .int .i64 (k : Int) ∧ BMap 44 klP okP wr w.heap.size (fun y => (b.take k).contains y) k ∧ Below w.heap.size w wr) (fun i _ => b.length - (intOf i).toNat)
  case atStart => exact ⟨0, by omega, rfl, hM0, hbW⟩
  case round =>
    obtain ⟨k, hk, rfl, hM, hbR⟩ := hrel
    have hszR := hbR.size
    have hMlt := hM.lt
    by_cases hlt : k < b.length
    · have hkk : okP b[k] := kb'.out _ (List.getElem_mem hlt)
      obtain ⟨g, off, rfl, hc⟩ := ptsp_open (Pts.to hp2 hbR) (by omega)
      obtain ⟨d0, d1⟩ := hc k hlt
      have ob := older_of_cell d0
      have hst : Hid (b.take (k + 1) = b.take k ++ [b[k]]) := (List.take_append_getElem hlt).symm
      clear hc
      generalize b[k] = e at *
      obtain ⟨x, y⟩ := e
      dsimp only at d0 d1
      go_upto_region 5 with fail
      refine wp_named ?_
      intro Y hY
      have kE : blk Y wr.heap.size #[.int .i64 x, .int .i64 y] 44 := by rw [hY]; exact bBkn
      have hbY : Below wr.heap.size wr Y := by rw [hY]; exact bBel
      clear hY d0 d1 ob
      obtain ⟨Z, hput0, hMZ, hgZ⟩ := BMap.put keyP umP (hM.to hbY) hkk (by omega)
      have hput : (Instr.mapUpdate 68 (.map (some w.heap.size)) (.agg #[.int .i64 x, .int .i64 y]) (.bool true)).run Try.prog Y = .ok () Z := hput0
      have hbY2 : Below w.heap.size w Y := Below.trans hbR (hbY.mono hszR)
      have hbZ : Below w.heap.size w Z := ⟨hgZ.os.trans hbY2.os, hgZ.tape.trans hbY2.tape, hgZ.output.trans hbY2.output, Nat.le_trans hbY2.size hgZ.size, fun k' hk' => (hgZ.block k' (Nat.lt_of_lt_of_le hk' hbY2.size) (by simp; omega)).trans (hbY2.block k' hk')⟩
      have hMZ2 : Hid (BMap 44 klP okP Z w.heap.size (fun y => (b.take (k + 1)).contains y) (k + 1)) := by
        show BMap _ _ _ _ _ _ _
        rw [hst.out]; exact hMZ.congr (cont_snoc _ _)
      clear hput0 hMZ hgZ
      have okE := blk_older kE
      have ckE_0 : _ = some _ := blk_cell kE 0
      have ckE_1 : _ = some _ := blk_cell kE 1
      have fkE_0 := blk_free kE 0
      have fkE_1 := blk_free kE 1
      go_wp2_with fail
      exact ⟨⟨k + 1, by omega, by go_num, hMZ2.out, hbZ⟩, by (try go_num); simp [intOf]; (try omega)⟩
    · obtain rfl : k = b.length := by omega
      have hM2 : Hid (BMap 44 klP okP wr w.heap.size (fun y => b.contains y) b.length) := by
        rw [List.take_length] at hM; exact hM
      clear hM
      go_wp2_with fail
      go_loopw [8, 23] (fun c i wx => ∃ k : Nat, k ≤ a.length ∧ i = .int .i64 (k : Int) ∧ wx.ownsRow w.heap.size 44 2 c (sbt (a.take k) b).length (pv (sbt (a.take k) b)) ∧ BMap 44 klP okP wx w.heap.size (fun y => b.contains y) b.length ∧ Below w.heap.size w wx ∧ c.ownBlock ≠ some w.heap.size) (fun _ i _ => a.length - (intOf i).toNat)
      case atStart => exact ⟨0, by omega, rfl, World.ownsRow_nil _ _ _ _, hM2.out, hbR, by simp [Value.ownBlock]⟩
      case round =>
        obtain ⟨k, hk, rfl, hown, hM, hbX, hne⟩ := hrel
        have hszX := hbX.size
        have hMlt := hM.lt
        by_cases hlt : k < a.length
        · have hkk : okP a[k] := ka'.out _ (List.getElem_mem hlt)
          obtain ⟨g, off, rfl, hc⟩ := ptsp_open (Pts.to hp1 hbX) (by omega)
          obtain ⟨d0, d1⟩ := hc k hlt
          have ob := older_of_cell d0
          have hty : Hid (a[k] ∉ b → sbt (a.take (k + 1)) b = sbt (a.take k) b ++ [a[k]]) := sbt_take_yes hlt
          have htn : Hid (a[k] ∈ b → sbt (a.take (k + 1)) b = sbt (a.take k) b) := sbt_take_no hlt
          have hln := sbt_take_len a b k
          clear hc
          generalize a[k] = e at *
          obtain ⟨x, y⟩ := e
          dsimp only at d0 d1
          go_upto_region 11 with fail
          refine wp_named ?_
          intro Y hY
          have kE : blk Y wr.heap.size #[.int .i64 x, .int .i64 y] 44 := by rw [hY]; exact bBkn
          have hbY : Below wr.heap.size wr Y := by rw [hY]; exact bBel
          clear hY d0 d1 ob
          have hlook0 := BMap.look keyP umP zbool (hM.to hbY) hkk
          have hlook : (Instr.lookup 68 (.map (some w.heap.size)) (.agg #[.int .i64 x, .int .i64 y]) false).run Try.prog Y = .ok (.bool (b.contains (x, y))) Y := hlook0
          have hMY := hM.to hbY
          have hownY := owns_below hown hbY
          have hbY2 : Below w.heap.size w Y := Below.trans hbX (hbY.mono hszX)
          have hszY := hbY2.size
          clear hlook0 hM hown
          have okE := blk_older kE
          have ckE_0 : _ = some _ := blk_cell kE 0
          have ckE_1 : _ = some _ := blk_cell kE 1
          have fkE_0 := blk_free kE 0
          have fkE_1 := blk_free kE 1
          cases hh : b.contains (x, y) with
          | true =>
            rw [hh] at hlook
            have h9 := htn.out (by simpa using hh)
            have h8 : Hid (sbt (a.take (k + 1)) b = sbt (a.take k) b) := h9
            clear h9 hty htn hh
            go_wp2_with fail
            refine ⟨⟨k + 1, by omega, by go_num, ?_, hMY, hbY2, hne⟩, by (try go_num); simp [intOf]; (try omega)⟩
            rw [h8.out]; exact hownY
          | false =>
            rw [hh] at hlook
            have h9 := hty.out (by simpa using hh)
            have h8 : Hid (sbt (a.take (k + 1)) b = sbt (a.take k) b ++ [(x, y)]) := h9
            clear h9 hty htn hh
            go_wp2_with (at_builtin; refine wpList_app20 rfl _ _ 40 rfl w.heap.size 44 i0 (.agg #[.int .i64 0, .int .i64 0]) 16 (by kernel_rfl) hi hz0 hz1 hz2 rfl _ _ _ rfl (owns_below hownY bBel) _ (.int .i64 x) (.int .i64 y) 44 rfl bBkn rfl rfl (by unfold maxLen; omega) (by omega) (by first | (simp; omega) | omega) ?_; intro v' w2 hown2 hb2 hg2 ho2)
            have hne2 : v'.ownBlock ≠ some w.heap.size := by
              rcases ho2 with e | e
              · rw [e]; exact hne
              · rw [e]; simp; omega
            refine ⟨⟨k + 1, by omega, by go_num, ?_, ((hMY.to ((Below.refl _ Y).alloc (Nat.le_refl _) _)).grown hg2 hne), Below.trans (Below.alloc hbY2 hszY _) hb2, hne2⟩, by (try go_num); simp [intOf]; (try omega)⟩
            rw [h8.out, pv_append20, List.length_append]; exact hown2
        · obtain rfl : k = a.length := by omega
          rw [List.take_length] at hown
          have hls := sbt_len a b
          have hownS := own_hid hown
          clear hown
          go_wp2_with (go_at_call 34; refine Calls.mono (dist_b w.heap.size _ (sbt a b) (by omega) _ hbX.size hownS.out) ?_; rw [hR.out]; rintro e w2 ⟨⟨A, cap, rfl, hn, hnil, hp⟩, hb2⟩)
          go_ret
          exact ⟨⟨A, cap, rfl, hn, hnil, hp⟩, Below.trans hbX hb2⟩

end Go.Proofs.Ytfhhkabdeajieaa
