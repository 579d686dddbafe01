/- Chapter 21: the example of the statements. -/
import Derived.Test.YtfhhkabdeajieaaSpP
import Derived.Test.YtfhhkabdeajieaaSpE
import Derived.Test.YtfhhkabdeajieaaSpF
import Derived.Deep.DeepCutAuto
set_option linter.unusedVariables false
set_option linter.unusedSimpArgs false
namespace Go.Proofs.Ytfhhkabdeajieaa
open Go.RowKit Fx

theorem ents_blk {w : World} {g : Nat} {l : List En} {t : TypeId} (h : blk w g (ev l).toArray t) : Ents w (some ⟨g, 0, none⟩) l :=
  .inr ⟨g, 0, rfl, fun i hi => ⟨ec l[i], ec_len _, fun j hj => by
    rw [Nat.zero_add, blk_cell h]
    simp only [List.getElem?_toArray]
    exact flat_get (c := ec) ec_len l i hi j hj, rfl⟩⟩
def exE : List En := [(3, ⟨4, 0, 5, 1⟩), (2, ⟨1, 0, 3, 1⟩), (1, ⟨0, 0, 2, 1⟩)]
theorem exE_keys : ∀ e ∈ exE, i64k e.1 := by
  intro e he
  simp only [exE, List.mem_cons, List.not_mem_nil, or_false] at he
  rcases he with rfl | rfl | rfl <;> unfold i64k <;> dsimp only <;> omega
theorem exE_pairs : prP (cnt exE) = [(1, 2)] := by decide
theorem exE_max : rmx (fAt (srE (cnt exE))) (xAt (srE (cnt exE))) (srE (cnt exE)).length = (2, 1) := by decide

set_option maxRecDepth 100000 in
set_option maxHeartbeats 4000000 in
theorem interval_b (i x y : Int) (w : World) : Calls Try.prog 28 #[.int .i64 i, .int .i64 x, .int .i64 y] w fun e w' => e = .returned (.agg #[.int .i64 i, .int .i64 x, .int .i64 0, .int .i64 y, .int .i64 1]) ∧ Below w.heap.size w w' := by
  go_enter Try.func28, Try.ntmps28
  go_wp2_with fail
  exact bodyPost_ret (v := .agg #[.int .i64 i, .int .i64 x, .int .i64 0, .int .i64 y, .int .i64 1]) (by simp [results, Try.results28, go_sem]; try (first | with_reducible rfl | exact ⟨rfl, rfl⟩ | exact ⟨rfl, rfl, rfl⟩ | exact ⟨rfl, rfl, rfl, rfl⟩ | exact ⟨rfl, rfl, rfl, rfl, rfl⟩ | exact ⟨rfl, rfl, rfl, rfl, rfl, rfl⟩ | rfl)) rfl ⟨rfl, bBel⟩

theorem own_one21 {w : World} {B : Nat} {t : TypeId} {v : Value} {a b : Int} (h : w.ownsRow B t 2 v 1 (pv [(a, b)])) : ∃ g cap, v = .slice (some ⟨g, 0, none⟩) 1 cap ∧ older g w = true ∧ w.cell? ⟨g, 0, none⟩ = some (.int .i64 a) ∧ w.cell? ⟨g, 1, none⟩ = some (.int .i64 b) := by
  obtain ⟨hl, ⟨_, h0⟩ | ⟨g, cap, cur, hv, hb, hh, hn, hm, hc, ht⟩⟩ := h
  · omega
  · have hk : blk w g cur t := hh
    refine ⟨g, cap, hv, blk_older hk, ?_, ?_⟩
    · rw [blk_cell hk]
      have := congrArg (fun l => l[0]?) ht
      simpa [pv, List.getElem?_take] using this
    · rw [blk_cell hk]
      have := congrArg (fun l => l[1]?) ht
      simpa [pv, List.getElem?_take] using this

set_option maxRecDepth 100000 in
set_option maxHeartbeats 8000000 in
theorem example21_b (w : World) : Calls Try.prog 8 #[] w fun e w' => e = .returned (.bool true) ∧ Below w.heap.size w w' := by
  have cP : ∀ g w', blk w' g (ev exE).toArray 33 → Calls Try.prog 19 #[.slice (some ⟨g, 0, none⟩) 3 3] w' fun e w'' => (∃ v, e = .returned v ∧ w''.ownsRow w'.heap.size 44 2 v 1 (pv [(1, 2)])) ∧ Below w'.heap.size w' w'' := fun g w' h => by
    have := pairs21_b (some ⟨g, 0, none⟩) 3 exE (by decide) exE_keys w' (ents_blk h)
    rw [exE_pairs] at this; exact this
  have cM : ∀ g w', blk w' g (ev exE).toArray 33 → Calls Try.prog 12 #[.slice (some ⟨g, 0, none⟩) 3 3] w' fun e w'' => e = .returned (.tuple #[.int .i64 2, .int .i64 1]) ∧ Below w'.heap.size w' w'' := fun g w' h => maxo_b (some ⟨g, 0, none⟩) 3 exE (by decide) exE_keys 2 1 exE_max w' (ents_blk h)
  have hq : ∀ W, (binOp .eql 44 (.agg #[.int .i64 1, .int .i64 2]) (.agg #[.int .i64 1, .int .i64 2])).run Try.prog W = .ok (.bool true) W := fun W => by rw [eql_pair]; simp
  go_enter Try.func8, Try.ntmps8
  go_upto_region 2 with (first | (go_at_call 28; with_reducible_and_instances refine Calls.mono (gw_at (interval_b 3 4 5 _)) ?_; rintro e w1 ⟨rfl, q1, rfl⟩) | (go_at_call 28; with_reducible_and_instances refine Calls.mono (gw_at (interval_b 2 1 3 _)) ?_; rintro e w1 ⟨rfl, q2, rfl⟩) | (go_at_call 28; with_reducible_and_instances refine Calls.mono (gw_at (interval_b 1 0 2 _)) ?_; rintro e w1 ⟨rfl, q, rfl⟩))
  refine wp_named ?_
  intro X hX
  have hbX : Below w.heap.size w X := by rw [hX]; exact bBel
  have he : (ev exE).toArray = #[.int .i64 3, .int .i64 4, .int .i64 0, .int .i64 5, .int .i64 1, .int .i64 2, .int .i64 1, .int .i64 0, .int .i64 3, .int .i64 1, .int .i64 1, .int .i64 0, .int .i64 0, .int .i64 2, .int .i64 1] := rfl
  have kX : blk X (w.heap.size + q1.os.size + q2.os.size + q.os.size) (ev exE).toArray 33 := by rw [he, hX]; exact bBkn
  clear hX he
  generalize w.heap.size + q1.os.size + q2.os.size + q.os.size = g at *
  have hszX := hbX.size
  go_upto_region 4 with (first | (go_at_call 19; with_reducible_and_instances refine Calls.mono (cP g _ kX) ?_; rintro e W1 ⟨⟨v, rfl, hv⟩, hb1⟩; have kX1 := blk_below hb1 kX; have hbw1 := Below.trans hbX (hb1.mono hszX); have hszw1 := hbw1.size) | (go_at_call 12; with_reducible_and_instances refine Calls.mono (cM g _ kX1) ?_; rintro e W2 ⟨rfl, hb2⟩; have hv2 := owns_below hv hb2; have hbw2 := Below.trans hbw1 (hb2.mono hszw1); have hszw2 := hbw2.size))
  obtain ⟨gp, cap, rfl, og, c0, c1⟩ := own_one21 hv2
  clear hv hv2 kX kX1
  go_wp2_with fail
  go_ret
  exact ⟨rfl, bBel⟩

end Go.Proofs.Ytfhhkabdeajieaa
