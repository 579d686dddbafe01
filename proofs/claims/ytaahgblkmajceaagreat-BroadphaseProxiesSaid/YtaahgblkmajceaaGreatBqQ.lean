/- Chapter 22: BroadphaseProxies. -/
import Derived.Test.YtaahgblkmajceaaGreatBqP
set_option linter.unusedVariables false
set_option linter.unusedSimpArgs false
namespace Go.Proofs.YtaahgblkmajceaaGreat
open Go.RowKit Fx Go.Maps

theorem neq_bxS22 (a b c d : Int) (W : World) : (binOp .neq 42 (.agg #[.int .i64 a, .int .i64 b, .int .i64 c, .int .i64 d]) (.agg #[.int .i64 a, .int .i64 b, .int .i64 c, .int .i64 d])).run Tryz.prog W = .ok (.bool false) W := by simp [go_sem]

set_option maxRecDepth 100000 in
set_option maxHeartbeats 8000000 in
theorem walk_BroadphaseProxies (A : Option Addr) (cap : Nat) (l : List Bdy) (w : World) (ha : Bods w A l) : Calls Tryz.prog 5 #[.slice A l.length cap] w fun e w' => e = .returned (.bool true) ∧ Below w.heap.size w w' := by
  have cE := fun w' => example22_b w'
  cases hF : fewB l 20 with
  | false =>
    have cFw := fun w' hw' => rfewA_b A cap l 20 (by decide) false hF w' hw'
    clear hF
    go_enter Tryz.func5, Tryz.ntmps5
    go_wp2_with (first | (go_at_call 9; with_reducible_and_instances refine Calls.mono (gw_at (cFw _ (Bods.to ha bBel))) ?_; rintro e w1 ⟨rfl, q, rfl⟩) | (go_at_call 10; with_reducible_and_instances refine Calls.mono (gw_at (cE _)) ?_; rintro e w1 ⟨rfl, q, rfl⟩))
    go_ret
    exact ⟨rfl, bBel⟩
  | true =>
    have cFw := fun w' hw' => rfewA_b A cap l 20 (by decide) true hF w' hw'
    obtain ⟨hl, hok0⟩ := fewB_iff.1 hF
    have hok : Hid (∀ x ∈ l, okF x) := hok0
    have hpl0 := pxs_len l (fun b hb => (hok0 b hb).1)
    clear hF hok0
    have hll : l.length ≤ 1000 := by omega
    have hpl : (pxs l).length ≤ 160 := by omega
    have cP := fun w' hw' => prox_b A cap l hll hok.out w' hw'
    have cR := fun w' hw' => rprox_b A cap l hll hok.out w' hw'
    clear hpl0
    generalize pxs l = P at *
    go_enter Tryz.func5, Tryz.ntmps5
    go_upto_region 3 with (go_at_call 9; refine Calls.mono (gw_at (cFw _ (Bods.to ha bBel))) ?_; rintro e w1 ⟨rfl, q, rfl⟩)
    refine wp_named ?_
    intro W hW
    have hbW : Below w.heap.size w W := by rw [hW]; exact bBel
    clear hW
    have hszW := hbW.size
    have haW := Bods.to ha hbW
    clear cFw
    go_upto_region 5 with (first | (go_at_call 14; with_reducible_and_instances refine Calls.mono (cP W haW) ?_; rintro e W1 ⟨⟨v1, rfl, ho1⟩, hb1⟩; obtain ⟨A5, c5, rfl, -, -, -, hK1⟩ := owns_pxs ho1; clear ho1; have hbw1 : Below w.heap.size w W1 := Below.trans hbW (hb1.mono hszW)) | (go_at_call 19; with_reducible_and_instances refine Calls.mono (cR W1 (Bods.to ha hbw1)) ?_; rintro e W2 ⟨⟨v2, rfl, ho2⟩, hb2⟩; obtain ⟨A6, c6, rfl, -, -, -, hK2⟩ := owns_pxs ho2; clear ho2; have hbw2 : Below w.heap.size w W2 := Below.trans hbw1 (hb2.mono hbw1.size); have hszw2 := hbw2.size; have hK12 := Pxs.to hK1 hb2))
    have hbw2 : Below w.heap.size w W2 := Below.trans hbw1 (hb2.mono hbw1.size)
    have hK12 := Pxs.to hK1 hb2
    have hszw2 := hbw2.size
    have hne : ((P.length : Int) != (P.length : Int)) = false := by simp
    clear hK1 hb1 hb2 hbw1 cP cR
    go_wp2_with fail
    go_loopw [5] (fun i wr => ∃ k : Nat, k ≤ P.length ∧ i = .int .i64 (k : Int) ∧ Below W2.heap.size W2 wr) (fun i _ => P.length - (intOf i).toNat)
    case atStart => exact ⟨0, by omega, rfl, Below.refl _ _⟩
    case round =>
      obtain ⟨k, hk, rfl, hb⟩ := hrel
      have hszR := hb.size
      have hbw : Below w.heap.size w wr := Below.trans hbw2 (hb.mono hszw2)
      by_cases hlt : k < P.length
      · have hltI : (k : Int) < (P.length : Int) := by omega
        obtain ⟨b1, f1, rfl, -, hc1⟩ := pxs_open hK12 (by omega)
        obtain ⟨b2, f2, rfl, -, hc2⟩ := pxs_open hK2 (by omega)
        obtain ⟨o1, d0, d1, d2, d3, d4, d5⟩ := hc1 k hlt wr hb
        obtain ⟨o2, e0, e1, e2, e3, e4, e5⟩ := hc2 k hlt wr hb
        clear hc1 hc2
        generalize pbx P[k] = x at *
        generalize P[k].1.i = i1 at *
        generalize P[k].2 = i2 at *
        obtain ⟨x0, x1, x2, x3⟩ := x
        dsimp only at d2 d3 d4 d5 e2 e3 e4 e5
        have hn1 : (i1 != i1) = false := by simp
        have hn2 : ((i2 : Int) != (i2 : Int)) = false := by simp
        have hn3 := neq_bxS22 x0 x1 x2 x3
        go_wp2_with fail
        refine wp_region_gw (by kernel_rfl) (by kernel_rfl) ?_
        repeat (go_big_quiet_step (fail))
        refine wpQuiet_nil ?_
        intro w1 hw1
        obtain ⟨q, rfl⟩ := hw1
        go_wp2_with fail
        exact ⟨⟨k + 1, by omega, by go_num, bBel⟩, by (try go_num); simp [intOf]; (try omega)⟩
      · obtain rfl : k = P.length := by omega
        go_wp2_with (first | (go_at_call 10; with_reducible_and_instances refine Calls.mono (gw_at (cE _)) ?_; rintro e w1 ⟨rfl, q, rfl⟩))
        go_ret
        exact ⟨rfl, bBel⟩

end Go.Proofs.YtaahgblkmajceaaGreat
