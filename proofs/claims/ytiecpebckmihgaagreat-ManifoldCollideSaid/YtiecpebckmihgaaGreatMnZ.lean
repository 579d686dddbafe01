/- Contracts of package manifold and of its reference: Equal, Clone, Flip. -/
import Derived.Test.YtiecpebckmihgaaGreatMnX
set_option linter.unusedVariables false
namespace Go.Proofs.YtiecpebckmihgaaGreat
open Go.RowKit Fx

theorem cnt_ext (a b : Cnt) : a = b ↔ (a.x = b.x ∧ a.y = b.y ∧ a.sep = b.sep ∧ a.id = b.id ∧ a.ni = b.ni ∧ a.ti = b.ti) := by
  cases a; cases b; simp
theorem cnts_of_cs {w : World} {A : Option Addr} {l : List Cnt} (h : Cs w A (l.flatMap cnc)) : Cnts w A l := by
  rcases Nat.eq_zero_or_pos l.length with h0 | h0
  · exact .inl (List.eq_nil_of_length_eq_zero h0)
  · obtain ⟨b, off, rfl, hc⟩ := Cs.open h (by rw [flat_len cnc_len]; omega)
    refine .inr ⟨b, off, rfl, fun i hi => ⟨cnc l[i], rfl, fun j hj => ?_, rfl⟩⟩
    have hk : i * 6 + j < (l.flatMap cnc).length := by rw [flat_len cnc_len]; omega
    rw [Nat.add_assoc, hc (i * 6 + j) hk, ← flat_get cnc_len l i hi j hj, List.getElem?_eq_getElem hk]
def eqM (nx ny : Int) (l : List Cnt) (nx' ny' : Int) (r : List Cnt) : Bool := decide (nx = nx' ∧ ny = ny' ∧ l = r)

set_option maxRecDepth 100000 in
set_option maxHeartbeats 16000000 in
theorem re16_b (nx ny : Int) (A : Option Addr) (ca : Nat) (l : List Cnt) (nx' ny' : Int) (B : Option Addr) (cb : Nat) (r : List Cnt) (hl : l.length ≤ 1000000) (hm : r.length ≤ 1000000) (w : World) (ha : Cnts w A l) (hb : Cnts w B r) : Calls Tryz.prog 11 #[.agg #[.int .i64 nx, .int .i64 ny, .slice A l.length ca], .agg #[.int .i64 nx', .int .i64 ny', .slice B r.length cb]] w fun e w' => e = .returned (.bool (eqM nx ny l nx' ny' r)) ∧ Below w.heap.size w w' := by
  obtain ⟨R, hR⟩ : ∃ R, eqM nx ny l nx' ny' r = R := ⟨_, rfl⟩
  rw [hR]
  have hR1 : Hid (R = true ↔ nx = nx' ∧ ny = ny' ∧ l = r) := by show _ ↔ _; rw [← hR]; unfold eqM; simp
  clear hR
  by_cases c1 : nx = nx'
  case neg =>
    obtain rfl : R = false := by rw [Bool.eq_false_iff]; intro e; exact c1 (hR1.out.1 e).1
    have e1 : (nx == nx') = false := by rw [beq_eq_false_iff_ne]; exact c1
    clear hR1 c1
    go_enter Tryz.func11, Tryz.ntmps11
    go_wp2_with fail
    go_ret
    exact ⟨rfl, bBel⟩
  by_cases c2 : ny = ny'
  case neg =>
    subst c1
    obtain rfl : R = false := by rw [Bool.eq_false_iff]; intro e; exact c2 (hR1.out.1 e).2.1
    have e1 : (ny == ny') = false := by rw [beq_eq_false_iff_ne]; exact c2
    clear hR1 c2
    go_enter Tryz.func11, Tryz.ntmps11
    go_wp2_with fail
    go_ret
    exact ⟨rfl, bBel⟩
  subst c1 c2
  by_cases hlen : l.length = r.length
  case neg =>
    obtain rfl : R = false := by rw [Bool.eq_false_iff]; intro e; exact hlen (by rw [(hR1.out.1 e).2.2])
    have b0 : ((l.length : Int) != (r.length : Int)) = true := by rw [bne_iff_ne]; omega
    clear hR1 hlen
    go_enter Tryz.func11, Tryz.ntmps11
    go_wp2_with fail
    go_ret
    exact ⟨rfl, bBel⟩
  have hlen2 : Hid (l.length = r.length) := hlen
  have b0 : ((l.length : Int) != (r.length : Int)) = false := by rw [bne_eq_false_iff_eq]; omega
  clear hlen
  go_enter Tryz.func11, Tryz.ntmps11
  go_upto_region 3 with fail
  refine wp_named ?_
  intro W hW
  have kA : blk W w.heap.size #[.int .i64 nx, .int .i64 ny, .slice A l.length ca] 34 := by rw [hW]; exact bBkn
  have kB : blk W (w.heap.size + 1) #[.int .i64 nx, .int .i64 ny, .slice B r.length cb] 34 := by rw [hW]; exact bBkn
  have hbW : Below w.heap.size w W := by rw [hW]; exact bBel
  clear hW
  have hszW := hbW.size
  have okA := blk_older kA
  have ckA_0 : _ = some _ := blk_cell kA 0
  have ckA_1 : _ = some _ := blk_cell kA 1
  have ckA_2 : _ = some _ := blk_cell kA 2
  have fkA_0 := blk_free kA 0
  have fkA_1 := blk_free kA 1
  have fkA_2 := blk_free kA 2
  have okB := blk_older kB
  have ckB_0 : _ = some _ := blk_cell kB 0
  have ckB_1 : _ = some _ := blk_cell kB 1
  have ckB_2 : _ = some _ := blk_cell kB 2
  have fkB_0 := blk_free kB 0
  have fkB_1 := blk_free kB 1
  have fkB_2 := blk_free kB 2
  go_wp2_with fail
  go_loopw [5] (fun i wr => ∃ k : Nat, k ≤ l.length ∧ i = .int .i64 (k : Int) ∧ (∀ j (h1 : j < l.length) (h2 : j < r.length), j < k → l[j] = r[j]) ∧ ∃ p, wr = gw W p)
    (fun i _ => (l.length - intOf i).toNat)
  case atStart => exact ⟨0, by omega, rfl, by omega, ⟨⟨W.drawn, #[]⟩, (gw_zero W).symm⟩⟩
  case round =>
    obtain ⟨k, hk, rfl, hall, p, rfl⟩ := hrel
    by_cases hlt : k < l.length
    · have hlt2 : k < r.length := by have := hlen2.out; omega
      have i0 : (0 : Int) ≤ (k : Int) := by omega
      have i1 : (k : Int) < (l.length : Int) := by omega
      have i2 : (k : Int) < (r.length : Int) := by omega
      have hbp : Below w.heap.size w (gw W p) := Below.trans hbW ((below_gw W p).mono hszW)
      obtain ⟨b, off, rfl, hc⟩ := cnts_open ha (by omega)
      obtain ⟨b', off', rfl, hc'⟩ := cnts_open hb (by omega)
      obtain ⟨d0, d1, d2, d3, d4, d5⟩ := hc k hlt _ hbp
      obtain ⟨f0, f1, f2, f3, f4, f5⟩ := hc' k hlt2 _ hbp
      have ob := older_of_cell d0
      have ob' := older_of_cell f0
      have hno : ¬ l[k] = r[k] → R = false := fun h => by
        rw [Bool.eq_false_iff]; intro e; exact h (by have := (hR1.out.1 e).2.2; subst this; rfl)
      have hsucc : l[k] = r[k] → ∀ j (h1 : j < l.length) (h2 : j < r.length), j < k + 1 → l[j] = r[j] := fun g j h1 h2 hj => by
        rcases (by omega : j < k ∨ j = k) with h3 | rfl
        · exact hall j h1 h2 h3
        · exact g
      have hiff : Hid (l[k] = r[k] ↔ (l[k].x = r[k].x ∧ l[k].y = r[k].y ∧ l[k].sep = r[k].sep ∧ l[k].id = r[k].id ∧ l[k].ni = r[k].ni ∧ l[k].ti = r[k].ti)) := cnt_ext _ _
      clear hc hc' hall
      generalize l[k].x = a0 at *
      generalize r[k].x = b0 at *
      generalize l[k].y = a1 at *
      generalize r[k].y = b1 at *
      generalize l[k].sep = a2 at *
      generalize r[k].sep = b2 at *
      generalize l[k].id = a3 at *
      generalize r[k].id = b3 at *
      generalize l[k].ni = a4 at *
      generalize r[k].ni = b4 at *
      generalize l[k].ti = a5 at *
      generalize r[k].ti = b5 at *
      by_cases c0 : a0 = b0
      · by_cases c1 : a1 = b1
        · by_cases c2 : a2 = b2
          · by_cases c3 : a3 = b3
            · by_cases c4 : a4 = b4
              · by_cases c5 : a5 = b5
                · subst c0 c1 c2 c3 c4 c5
                  have hg := hsucc (hiff.out.2 ⟨rfl, rfl, rfl, rfl, rfl, rfl⟩)
                  clear hno hsucc hiff
                  go_wp2_with fail
                  refine wp_region_gw (by kernel_rfl) (by kernel_rfl) ?_
                  repeat (go_big_quiet_step (fail))
                  refine wpQuiet_nil ?_
                  intro w1 hw1
                  obtain ⟨q, rfl⟩ := hw1
                  go_wp2_with fail
                  exact ⟨⟨k + 1, by omega, by go_num, hg, gw_gw _ _ _⟩, by (try go_num); simp [intOf]; (try omega)⟩
                · obtain rfl := hno fun h => c5 ((hiff.out.1 h).2.2.2.2.2)
                  subst c0 c1 c2 c3 c4
                  have e1 : (a5 == b5) = false := by rw [beq_eq_false_iff_ne]; exact c5
                  clear hno hsucc hiff
                  go_wp2_with fail
                  refine wp_region_gw (by kernel_rfl) (by kernel_rfl) ?_
                  repeat (go_big_quiet_step (fail))
                  refine wpQuiet_nil ?_
                  intro w1 hw1
                  obtain ⟨q, rfl⟩ := hw1
                  go_wp2_with fail
                  go_ret
                  exact ⟨rfl, Below.trans hbW (Below.mono bBel hszW)⟩
              · obtain rfl := hno fun h => c4 ((hiff.out.1 h).2.2.2.2.1)
                subst c0 c1 c2 c3
                have e1 : (a4 == b4) = false := by rw [beq_eq_false_iff_ne]; exact c4
                clear hno hsucc hiff
                go_wp2_with fail
                refine wp_region_gw (by kernel_rfl) (by kernel_rfl) ?_
                repeat (go_big_quiet_step (fail))
                refine wpQuiet_nil ?_
                intro w1 hw1
                obtain ⟨q, rfl⟩ := hw1
                go_wp2_with fail
                go_ret
                exact ⟨rfl, Below.trans hbW (Below.mono bBel hszW)⟩
            · obtain rfl := hno fun h => c3 ((hiff.out.1 h).2.2.2.1)
              subst c0 c1 c2
              have e1 : (a3 == b3) = false := by rw [beq_eq_false_iff_ne]; exact c3
              clear hno hsucc hiff
              go_wp2_with fail
              refine wp_region_gw (by kernel_rfl) (by kernel_rfl) ?_
              repeat (go_big_quiet_step (fail))
              refine wpQuiet_nil ?_
              intro w1 hw1
              obtain ⟨q, rfl⟩ := hw1
              go_wp2_with fail
              go_ret
              exact ⟨rfl, Below.trans hbW (Below.mono bBel hszW)⟩
          · obtain rfl := hno fun h => c2 ((hiff.out.1 h).2.2.1)
            subst c0 c1
            have e1 : (a2 == b2) = false := by rw [beq_eq_false_iff_ne]; exact c2
            clear hno hsucc hiff
            go_wp2_with fail
            refine wp_region_gw (by kernel_rfl) (by kernel_rfl) ?_
            repeat (go_big_quiet_step (fail))
            refine wpQuiet_nil ?_
            intro w1 hw1
            obtain ⟨q, rfl⟩ := hw1
            go_wp2_with fail
            go_ret
            exact ⟨rfl, Below.trans hbW (Below.mono bBel hszW)⟩
        · obtain rfl := hno fun h => c1 ((hiff.out.1 h).2.1)
          subst c0
          have e1 : (a1 == b1) = false := by rw [beq_eq_false_iff_ne]; exact c1
          clear hno hsucc hiff
          go_wp2_with fail
          refine wp_region_gw (by kernel_rfl) (by kernel_rfl) ?_
          repeat (go_big_quiet_step (fail))
          refine wpQuiet_nil ?_
          intro w1 hw1
          obtain ⟨q, rfl⟩ := hw1
          go_wp2_with fail
          go_ret
          exact ⟨rfl, Below.trans hbW (Below.mono bBel hszW)⟩
      · obtain rfl := hno fun h => c0 ((hiff.out.1 h).1)
        have e1 : (a0 == b0) = false := by rw [beq_eq_false_iff_ne]; exact c0
        clear hno hsucc hiff
        go_wp2_with fail
        refine wp_region_gw (by kernel_rfl) (by kernel_rfl) ?_
        repeat (go_big_quiet_step (fail))
        refine wpQuiet_nil ?_
        intro w1 hw1
        obtain ⟨q, rfl⟩ := hw1
        go_wp2_with fail
        go_ret
        exact ⟨rfl, Below.trans hbW (Below.mono bBel hszW)⟩
    · obtain rfl : k = l.length := by omega
      have i1 : ¬ (l.length : Int) < (l.length : Int) := by omega
      obtain rfl : R = true := hR1.out.2 ⟨by first | rfl | trivial, by first | rfl | trivial, List.ext_getElem hlen2.out fun j h1 h2 => hall j h1 h2 h1⟩
      clear hall
      go_wp2_with fail
      go_ret
      exact ⟨rfl, Below.trans hbW (Below.mono bBel hszW)⟩

set_option maxHeartbeats 4000000 in
theorem rclo16_b (nx ny : Int) (A : Option Addr) (cap : Nat) (l : List Cnt) (hl : l.length ≤ 1000000) (hlc : l.length ≤ cap) (hA : A = none → cap = 0) (w : World) (hp : Cnts w A l) : Calls Tryz.prog 63 #[.agg #[.int .i64 nx, .int .i64 ny, .slice A l.length cap]] w (MnF w ⟨nx, ny, l⟩) := by
  obtain ⟨i0, hi, hz0, hz1, hz2⟩ := info_parts info_cnt
  go_enter Tryz.func63, Tryz.ntmps63
  go_wp2_with fail
  refine wp_named ?_
  intro W hW
  have kB : blk W w.heap.size #[.int .i64 nx, .int .i64 ny, .slice A l.length cap] 34 := by rw [hW]; exact bBkn
  have kR : blk W (w.heap.size + 1) #[.int .i64 0, .int .i64 0, .slice none 0 0] 34 := by rw [hW]; exact bBkn
  have hbW : Below w.heap.size w W := by rw [hW]; exact bBel
  clear hW
  have hszW := hbW.size
  have hP : Cnts W A l := Cnts.to hp hbW
  have hlt := blk_lt kR
  have okB := blk_older kB
  have ckB_0 : _ = some _ := blk_cell kB 0
  have ckB_1 : _ = some _ := blk_cell kB 1
  have ckB_2 : _ = some _ := blk_cell kB 2
  have fkB_0 := blk_free kB 0
  have fkB_1 := blk_free kB 1
  have fkB_2 := blk_free kB 2
  have okR := blk_older kR
  have ckR_0 : _ = some _ := blk_cell kR 0
  have ckR_1 : _ = some _ := blk_cell kR 1
  have ckR_2 : _ = some _ := blk_cell kR 2
  have fkR_0 := blk_free kR 0
  have fkR_1 := blk_free kR 1
  have fkR_2 := blk_free kR 2
  refine wp_mix 7 [0, 1, 0, 0, 8, 28, 63, 127] [] [0, 1, 3, 4, 2, 5, 6] (by kernel_rfl) (by kernel_rfl) ?_
  repeat (first | (refine mix_skip (by rfl) (by rfl) (by rfl) (by rfl) ?_) | (refine mix_early (by rfl) (by rfl) (by rfl) ?_; go_big_quiet_step (fail); with_reducible refine wpQuiet_nil ?_) | (refine mix_late (by rfl) (by rfl) (by rfl) ?_; go_big_quiet_step (fail); with_reducible refine wpQuiet_nil ?_) | (refine mix_call (by rfl) (by rfl) (by rfl) ?_; intro pM Qs hQs; go_wp2_with fail; refine hQs _ _ bBel ?_))
  refine mix_make #[] 39 (some 0) (by rfl) (by rfl) (by rfl) (by rfl) (fun w => by simp [go_sem, mval]) ?_
  intro b5 wb hbb kb hS
  obtain ⟨qb, rfl⟩ := gw_of_below hbb
  clear hbb hS
  simp only [mval]
  repeat (first | (refine mix_skip (by rfl) (by rfl) (by rfl) (by rfl) ?_) | (refine mix_early (by rfl) (by rfl) (by rfl) ?_; go_big_quiet_step (fail); with_reducible refine wpQuiet_nil ?_) | (refine mix_late (by rfl) (by rfl) (by rfl) ?_; go_big_quiet_step (fail); with_reducible refine wpQuiet_nil ?_) | (refine mix_call (by rfl) (by rfl) (by rfl) ?_; intro pM Qs hQs; go_wp2_with (at_builtin; refine wpList_app0 rfl _ _ 32 rfl 39 i0 (.agg #[.int .i64 0, .int .i64 0, .int .i64 0, .int .i64 0, .int .i64 0, .int .i64 0]) 6 48 Tryz.underlying32 hi hz0 hz1 hz2 rfl (by decide) _ rfl _ _ _ (l.flatMap cnc) rfl hA hlc (flat_len cnc_len l) (cs_of_cnts (Cnts.to hP bBel)) (by unfold maxLen; omega) (by omega) ?_; intro A5 c5 w5 hle5 hmx5 hnil5 hcs5 hb5; obtain ⟨q5, rfl⟩ := gw_of_below hb5; clear hb5); refine hQs _ _ bBel ?_))
  refine mix_end ?_
  intro pE
  simp only [List.drop_succ_cons, List.drop_zero]
  go_wp2_with fail
  refine post_named ?_
  intro Z hZ
  have kZ : blk Z (w.heap.size + 1) #[.int .i64 nx, .int .i64 ny, .slice A5 l.length c5] 34 := by rw [hZ]; exact (by apply blk_of; (repeat (first | with_reducible exact kR | with_reducible apply blk_drew | with_reducible apply blk_gw | with_reducible apply blk_alloc | with_reducible apply blk_set | ((with_reducible apply blk_other); focus omega))); (first | rfl | simp))
  have hbZ : Below w.heap.size w Z := by rw [hZ]; exact bBel
  have hPZ : Cnts Z A5 l := by
    rcases hcs5 with h | ⟨bA, cur, rfl, hge, kA, hcur⟩
    · exact cnts_of_cs (.inl h)
    · have hgeW : W.heap.size ≤ bA := by (try simp at hge); omega
      have kA' : blk Z bA cur 39 := by
        rw [hZ]; refine blk_gw (blk_sm ?_ kA)
        repeat (first | with_reducible exact sm_refl _ _ | with_reducible refine sm_gw ?_ | with_reducible refine sm_set ?_ (by omega))
      exact cnts_of_cs (Cs.of_blk kA' hcur)
  have hfr : Fr w.heap.size A5 l := by
    rcases hcs5 with h | ⟨bA, cur, rfl, hge, _⟩
    · exact .inl (List.eq_nil_of_length_eq_zero (by have := congrArg List.length h; rw [flat_len cnc_len, List.length_nil] at this; omega))
    · exact .inr ⟨bA, rfl, by (try simp at hge); omega⟩
  clear hZ
  have okZ := blk_older kZ
  have ckZ_0 : _ = some _ := blk_cell kZ 0
  have ckZ_1 : _ = some _ := blk_cell kZ 1
  have ckZ_2 : _ = some _ := blk_cell kZ 2
  have fkZ_0 := blk_free kZ 0
  have fkZ_1 := blk_free kZ 1
  have fkZ_2 := blk_free kZ 2
  exact bodyPost_ret (v := .agg #[.int .i64 nx, .int .i64 ny, .slice A5 l.length c5]) (by simp [results, Tryz.results63, go_sem, ckZ_0, ckZ_1, ckZ_2]) rfl (mnf_mk hle5 hmx5 hnil5 hPZ hfr hbZ)

set_option maxHeartbeats 4000000 in
theorem rflip16_b (nx ny : Int) (A : Option Addr) (cap : Nat) (l : List Cnt) (hl : l.length ≤ 1000000) (hlc : l.length ≤ cap) (hA : A = none → cap = 0) (w : World) (hp : Cnts w A l) : Calls Tryz.prog 30 #[.agg #[.int .i64 nx, .int .i64 ny, .slice A l.length cap]] w (MnF w ⟨ng nx, ng ny, l⟩) := by
  have cC := fun w' h => mnf_ex (rclo16_b nx ny A cap l hl hlc hA w' h)
  go_enter Tryz.func30, Tryz.ntmps30
  go_upto_region 1 with fail
  refine wp_named ?_
  intro W hW
  have kB : blk W w.heap.size #[.int .i64 nx, .int .i64 ny, .slice A l.length cap] 34 := by rw [hW]; exact bBkn
  have kR : blk W (w.heap.size + 1) #[.int .i64 0, .int .i64 0, .slice none 0 0] 34 := by rw [hW]; exact bBkn
  have hbW : Below w.heap.size w W := by rw [hW]; exact bBel
  have hzW : w.heap.size + 2 ≤ W.heap.size := by rw [hW]; simp
  clear hW
  have hP : Cnts W A l := Cnts.to hp hbW
  have okB := blk_older kB
  have ckB_0 : _ = some _ := blk_cell kB 0
  have ckB_1 : _ = some _ := blk_cell kB 1
  have ckB_2 : _ = some _ := blk_cell kB 2
  have fkB_0 := blk_free kB 0
  have fkB_1 := blk_free kB 1
  have fkB_2 := blk_free kB 2
  have okR := blk_older kR
  have ckR_0 : _ = some _ := blk_cell kR 0
  have ckR_1 : _ = some _ := blk_cell kR 1
  have ckR_2 : _ = some _ := blk_cell kR 2
  have fkR_0 := blk_free kR 0
  have fkR_1 := blk_free kR 1
  have fkR_2 := blk_free kR 2
  go_upto_region 2 with (go_at_call 63; refine Calls.mono (cC _ (Cnts.to hP bBel)) ?_; rintro e w1 ⟨⟨A5, c5, rfl, hle5, hmx5, hnil5, hP5, hfr5⟩, q5, rfl⟩)
  refine wp_named ?_
  intro X hX
  have kM1 : blk X (W.heap.size + q5.os.size) #[.int .i64 nx, .int .i64 ny, .slice A5 l.length c5] 34 := by rw [hX]; exact bBkn
  have kB1 : blk X w.heap.size #[.int .i64 nx, .int .i64 ny, .slice A l.length cap] 34 := by rw [hX]; exact (by apply blk_of; (repeat (first | with_reducible exact kB | with_reducible apply blk_drew | with_reducible apply blk_gw | with_reducible apply blk_alloc | with_reducible apply blk_set | ((with_reducible apply blk_other); focus omega))); (first | rfl | simp))
  have kR1 : blk X (w.heap.size + 1) #[.int .i64 0, .int .i64 0, .slice none 0 0] 34 := by rw [hX]; exact (by apply blk_of; (repeat (first | with_reducible exact kR | with_reducible apply blk_drew | with_reducible apply blk_gw | with_reducible apply blk_alloc | with_reducible apply blk_set | ((with_reducible apply blk_other); focus omega))); (first | rfl | simp))
  have hbX : Below w.heap.size w X := by rw [hX]; exact bBel
  have hPX : Cnts X A5 l := by rw [hX]; exact Cnts.to hP5 bBel
  have hfr : l = [] ∨ ∃ b, A5 = some ⟨b, 0, none⟩ ∧ w.heap.size + 2 ≤ b := by
    rcases hfr5 with h | ⟨b, rfl, hge⟩
    · exact .inl h
    · exact .inr ⟨b, rfl, by (try simp at hge); omega⟩
  have hM2 : w.heap.size + 2 ≤ W.heap.size + q5.os.size := by omega
  clear hX hP5 hfr5 hP okB okR ckB_0 ckB_1 ckB_2 fkB_0 fkB_1 fkB_2 ckR_0 ckR_1 ckR_2 fkR_0 fkR_1 fkR_2 kB kR hbW hzW
  generalize W.heap.size + q5.os.size = M at *
  have okB1 := blk_older kB1
  have ckB1_0 : _ = some _ := blk_cell kB1 0
  have ckB1_1 : _ = some _ := blk_cell kB1 1
  have ckB1_2 : _ = some _ := blk_cell kB1 2
  have fkB1_0 := blk_free kB1 0
  have fkB1_1 := blk_free kB1 1
  have fkB1_2 := blk_free kB1 2
  have okR1 := blk_older kR1
  have ckR1_0 : _ = some _ := blk_cell kR1 0
  have ckR1_1 : _ = some _ := blk_cell kR1 1
  have ckR1_2 : _ = some _ := blk_cell kR1 2
  have fkR1_0 := blk_free kR1 0
  have fkR1_1 := blk_free kR1 1
  have fkR1_2 := blk_free kR1 2
  have okM1 := blk_older kM1
  have ckM1_0 : _ = some _ := blk_cell kM1 0
  have ckM1_1 : _ = some _ := blk_cell kM1 1
  have ckM1_2 : _ = some _ := blk_cell kM1 2
  have fkM1_0 := blk_free kM1 0
  have fkM1_1 := blk_free kM1 1
  have fkM1_2 := blk_free kM1 2
  go_upto_region 3 with fail
  refine wp_named ?_
  intro V hV
  have kM2 : blk V M #[.int .i64 (wrap64 (-nx)), .int .i64 (wrap64 (-ny)), .slice A5 l.length c5] 34 := by rw [hV]; exact (by apply blk_of; (repeat (first | with_reducible exact kM1 | with_reducible apply blk_drew | with_reducible apply blk_gw | with_reducible apply blk_alloc | with_reducible apply blk_set | ((with_reducible apply blk_other); focus omega))); (first | rfl | simp))
  rw [ng_wrap, ng_wrap] at kM2
  have kR2 : blk V (w.heap.size + 1) #[.int .i64 0, .int .i64 0, .slice none 0 0] 34 := by rw [hV]; exact (by apply blk_of; (repeat (first | with_reducible exact kR1 | with_reducible apply blk_drew | with_reducible apply blk_gw | with_reducible apply blk_alloc | with_reducible apply blk_set | ((with_reducible apply blk_other); focus omega))); (first | rfl | simp))
  have g2 : w.heap.size ≤ M := by omega
  have hbV : Below w.heap.size w V := by
    rw [hV]
    repeat (first | with_reducible exact hbX | with_reducible refine Below.setCell ?_ (by exact g2) _)
  have hPV : Cnts V A5 l := by
    refine cnts_keep kM1 hPX fun b hb => ?_
    rw [hV]
    repeat (first | with_reducible exact sm_refl _ _ | with_reducible refine sm_gw ?_ | with_reducible refine sm_set ?_ hb)
  clear hV okB1 ckB1_0 ckB1_1 ckB1_2 fkB1_0 fkB1_1 fkB1_2 okR1 ckR1_0 ckR1_1 ckR1_2 fkR1_0 fkR1_1 fkR1_2 okM1 ckM1_0 ckM1_1 ckM1_2 fkM1_0 fkM1_1 fkM1_2 kB1 kR1 kM1 hbX hPX
  have hszV := hbV.size
  have okM2 := blk_older kM2
  have ckM2_0 : _ = some _ := blk_cell kM2 0
  have ckM2_1 : _ = some _ := blk_cell kM2 1
  have ckM2_2 : _ = some _ := blk_cell kM2 2
  have fkM2_0 := blk_free kM2 0
  have fkM2_1 := blk_free kM2 1
  have fkM2_2 := blk_free kM2 2
  have okR2 := blk_older kR2
  have ckR2_0 : _ = some _ := blk_cell kR2 0
  have ckR2_1 : _ = some _ := blk_cell kR2 1
  have ckR2_2 : _ = some _ := blk_cell kR2 2
  have fkR2_0 := blk_free kR2 0
  have fkR2_1 := blk_free kR2 1
  have fkR2_2 := blk_free kR2 2
  go_wp2_with fail
  refine post_named ?_
  intro Z hZ
  have kZ : blk Z (w.heap.size + 1) #[.int .i64 (ng nx), .int .i64 (ng ny), .slice A5 l.length c5] 34 := by rw [hZ]; exact (by apply blk_of; (repeat (first | with_reducible exact kR2 | with_reducible apply blk_drew | with_reducible apply blk_gw | with_reducible apply blk_alloc | with_reducible apply blk_set | ((with_reducible apply blk_other); focus omega))); (first | rfl | simp))
  have hbZ : Below w.heap.size w Z := by rw [hZ]; exact bBel
  have hPZ : Cnts Z A5 l := by
    refine cnts_keep kR2 hPV fun b hb => ?_
    rw [hZ]
    repeat (first | with_reducible exact sm_refl _ _ | with_reducible refine sm_gw ?_ | with_reducible refine sm_set ?_ hb)
  have hfr2 : Fr w.heap.size A5 l := by
    rcases hfr with h | ⟨b, rfl, hge⟩
    · exact .inl h
    · exact .inr ⟨b, rfl, by omega⟩
  clear hZ
  have okZ := blk_older kZ
  have ckZ_0 : _ = some _ := blk_cell kZ 0
  have ckZ_1 : _ = some _ := blk_cell kZ 1
  have ckZ_2 : _ = some _ := blk_cell kZ 2
  have fkZ_0 := blk_free kZ 0
  have fkZ_1 := blk_free kZ 1
  have fkZ_2 := blk_free kZ 2
  exact bodyPost_ret (v := .agg #[.int .i64 (ng nx), .int .i64 (ng ny), .slice A5 l.length c5]) (by simp [results, Tryz.results30, go_sem, ckZ_0, ckZ_1, ckZ_2]) rfl (mnf_mk hle5 hmx5 hnil5 hPZ hfr2 hbZ)

end Go.Proofs.YtiecpebckmihgaaGreat
