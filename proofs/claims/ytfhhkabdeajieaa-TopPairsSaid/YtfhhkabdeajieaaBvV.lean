/- Chapter 20: contracts of collect, search, Query, RayQuery; the methods of a nil tree. -/
import Derived.Test.YtfhhkabdeajieaaBvR
import Derived.Deep.LoopGhost
import Derived.Deep.DeepCutAuto
import Derived.Test.YtfhhkabdeajieaaKi3
import Derived.Maps.AppendAt
import Derived.OwnWalk
set_option linter.unusedVariables false
set_option linter.unusedSimpArgs false
namespace Go.Proofs.Ytfhhkabdeajieaa
open Go.RowKit Fx

set_option maxRecDepth 100000 in
set_option maxHeartbeats 4000000 in
theorem insert0_b (i x0 y0 x1 y1 : Int) (w : World) : Calls Try.prog 41 #[.pointer none, .int .i64 i, .agg #[.int .i64 x0, .int .i64 y0, .int .i64 x1, .int .i64 y1]] w fun e w' => e = .returned (.int .i64 1) ∧ Below w.heap.size w w' := by
  go_enter Try.func41, Try.ntmps41
  go_wp2_with fail
  go_ret
  exact ⟨rfl, bBel⟩

set_option maxRecDepth 100000 in
set_option maxHeartbeats 4000000 in
theorem update0_b (i x0 y0 x1 y1 : Int) (w : World) : Calls Try.prog 42 #[.pointer none, .int .i64 i, .agg #[.int .i64 x0, .int .i64 y0, .int .i64 x1, .int .i64 y1]] w fun e w' => e = .returned (.int .i64 1) ∧ Below w.heap.size w w' := by
  go_enter Try.func42, Try.ntmps42
  go_wp2_with fail
  go_ret
  exact ⟨rfl, bBel⟩

set_option maxRecDepth 100000 in
set_option maxHeartbeats 4000000 in
theorem remove0_b (i : Int) (w : World) : Calls Try.prog 43 #[.pointer none, .int .i64 i] w fun e w' => e = .returned (.bool false) ∧ Below w.heap.size w w' := by
  go_enter Try.func43, Try.ntmps43
  go_wp2_with fail
  go_ret
  exact ⟨rfl, bBel⟩

set_option maxRecDepth 100000 in
set_option maxHeartbeats 4000000 in
theorem pairs0_b (w : World) : Calls Try.prog 25 #[.pointer none] w fun e w' => e = .returned (.slice none 0 0) ∧ Below w.heap.size w w' := by
  go_enter Try.func25, Try.ntmps25
  go_wp2_with fail
  go_ret
  exact ⟨rfl, bBel⟩

set_option maxRecDepth 100000 in
set_option maxHeartbeats 4000000 in
theorem search0_b (f : Value) (w : World) : Calls Try.prog 64 #[.pointer none, f] w fun e w' => e = .returned (.slice none 0 0) ∧ Below w.heap.size w w' := by
  go_enter Try.func64, Try.ntmps64
  go_wp2_with fail
  go_ret
  exact ⟨rfl, bBel⟩

set_option maxRecDepth 100000 in
set_option maxHeartbeats 4000000 in
theorem query0_b (x0 y0 x1 y1 : Int) (w : World) : Calls Try.prog 46 #[.pointer none, .agg #[.int .i64 x0, .int .i64 y0, .int .i64 x1, .int .i64 y1]] w fun e w' => e = .returned (.slice none 0 0) ∧ Below w.heap.size w w' := by
  go_enter Try.func46, Try.ntmps46
  go_wp2_with (go_at_call 64; refine Calls.mono (gw_at (search0_b _ _)) ?_; rintro e w1 ⟨rfl, q, rfl⟩)
  go_ret
  exact ⟨rfl, bBel⟩

theorem Rep.low {w w' : World} {M : Nat → Nd} {S : Nat → Prop} {B : Nat} (h : Rep w M S) (hb : Below B w w') (hs : ∀ k, S k → k < B) : Rep w' M S := fun c hc => (hb.block c (hs c hc)).trans (h c hc)
theorem blk_low {w w' : World} {B b : Nat} {c : Array Value} {t : TypeId} (h : blk w b c t) (hb : Below B w w') (hs : b < B) : blk w' b c t := (hb.block b hs).trans h

theorem Tr.hits_len (m : Bx → Bool) : ∀ t : Tr, (t.hits m).length ≤ t.lv.length
  | .leaf _ _ x => by simp only [Tr.hits, Tr.lv]; split <;> simp
  | .node _ l r => by
    have := l.hits_len m; have := r.hits_len m
    simp only [Tr.hits, Tr.lv, List.length_append]; split <;> simp <;> omega

@[go_sem] theorem idx0 (x y : Value) (w : World) : (Instr.index 87 (.agg #[x, y]) (.int .i64 0)).run Try.prog w = .ok x w := by kernel_rfl

@[go_sem] theorem idx1 (x y : Value) (w : World) : (Instr.index 87 (.agg #[x, y]) (.int .i64 1)).run Try.prog w = .ok y w := by kernel_rfl

theorem info_int20 : (Try.prog.info? 3).map (fun i => (i.zero, i.size, i.bytes)) = some (some (.int .i64 0), 1, 8) := by kernel_rfl

set_option maxRecDepth 100000 in
set_option maxHeartbeats 4000000 in
theorem qfun_b (q0 q1 q2 q3 x0 y0 x1 y1 : Int) (Bq : Nat) (w : World) (kq : blk w Bq #[.int .i64 q0, .int .i64 q1, .int .i64 q2, .int .i64 q3] 31) (D : Bool) (hD : ovl8 x0 y0 x1 y1 q0 q1 q2 q3 = D) : Calls Try.prog 65 #[.agg #[.int .i64 x0, .int .i64 y0, .int .i64 x1, .int .i64 y1], .pointer (some ⟨Bq, 0, none⟩)] w fun e w' => e = .returned (.bool D) ∧ Below w.heap.size w w' := by
  have okq := blk_older kq
  have ckq_0 : _ = some _ := blk_cell kq 0
  have ckq_1 : _ = some _ := blk_cell kq 1
  have ckq_2 : _ = some _ := blk_cell kq 2
  have ckq_3 : _ = some _ := blk_cell kq 3
  have fkq_0 := blk_free kq 0
  have fkq_1 := blk_free kq 1
  have fkq_2 := blk_free kq 2
  have fkq_3 := blk_free kq 3
  go_enter Try.func65, Try.ntmps65
  go_wp2_with (go_at_call 20; refine Calls.mono (gw_at (xovl_b x0 y0 x1 y1 q0 q1 q2 q3 _)) ?_; rintro e w1 ⟨rfl, q, rfl⟩)
  go_ret
  exact ⟨rfl, bBel⟩

set_option maxRecDepth 100000 in
set_option maxHeartbeats 4000000 in
theorem collectq_b (B0 : Nat) (q0 q1 q2 q3 : Int) (Bq : Nat) (hBq : Bq < B0) (M : Nat → Nd) (S : Nat → Prop) (hS0 : ∀ k, S k → k < B0) (T : Tr) : ∀ (w : World) (v : Value) (xs : List Int), Rep w M S → Lay M T → (∀ c ∈ T.bs, S c) → blk w Bq #[.int .i64 q0, .int .i64 q1, .int .i64 q2, .int .i64 q3] 31 → B0 ≤ w.heap.size → w.ownsRow B0 3 1 v xs.length (iv xs) → xs.length + T.lv.length ≤ 100000 →
    Calls Try.prog 92 #[.pointer (some ⟨T.b, 0, none⟩), v, .func (.func 65) #[] #[.pointer (some ⟨Bq, 0, none⟩)]] w fun e w' => ∃ v', e = .returned v' ∧ w'.ownsRow B0 3 1 v' (xs ++ T.hits (fun b => Bx.ovl b ⟨q0, q1, q2, q3⟩)).length (iv (xs ++ T.hits (fun b => Bx.ovl b ⟨q0, q1, q2, q3⟩))) ∧ Below B0 w w' := by
  induction T with
  | leaf b i x =>
    intro w v xs hR hL hS kq hB hown hN
    have kn := hR b (hS _ (by simp [Tr.bs]))
    obtain ⟨e1, e2, e3⟩ := hL
    have c1 := fun w' (h : Below w.heap.size w w') => isleaf_b b (M b) w' (blk_below h kn) true (by rw [e3]; rfl)
    obtain ⟨Q, hQ⟩ : ∃ Q, M b = Q := ⟨_, rfl⟩
    rw [hQ] at kn e1 e2
    clear hQ
    obtain ⟨iQ, ⟨x0Q, y0Q, x1Q, y1Q⟩, hQ', pQ, lQ, rQ⟩ := Q
    dsimp only at e1 e2
    subst e1 e2
    simp only [ndc] at kn
    generalize nptr pQ = PQ at *
    generalize nptr lQ = LQ at *
    generalize nptr rQ = RQ at *
    simp only [Tr.b, Tr.hits]
    simp only [Tr.lv, List.length_singleton] at hN
    have cM := fun w' (h : Below w.heap.size w w') D hD => qfun_b q0 q1 q2 q3 x0Q y0Q x1Q y1Q Bq w' (blk_below h kq) D hD
    clear e3 hR hS
    obtain ⟨D, hm⟩ : ∃ D, (fun b => Bx.ovl b ⟨q0, q1, q2, q3⟩) ⟨x0Q, y0Q, x1Q, y1Q⟩ = D := ⟨_, rfl⟩
    dsimp only at hm
    cases D with
    | false =>
      simp only [hm, Bool.false_eq_true, if_false, List.append_nil]
      have cM2 := fun w' h => cM w' h false hm
      have A : Hid (w.ownsRow B0 3 1 v xs.length (iv xs)) := hown
      clear cM hown hm
      have okn := blk_older kn
      have ckn_0 : _ = some _ := blk_cell kn 0
      have ckn_1 : _ = some _ := blk_cell kn 1
      have ckn_2 : _ = some _ := blk_cell kn 2
      have ckn_3 : _ = some _ := blk_cell kn 3
      have ckn_4 : _ = some _ := blk_cell kn 4
      have ckn_5 : _ = some _ := blk_cell kn 5
      have ckn_6 : _ = some _ := blk_cell kn 6
      have ckn_7 : _ = some _ := blk_cell kn 7
      have ckn_8 : _ = some _ := blk_cell kn 8
      have fkn_0 := blk_free kn 0
      have fkn_1 := blk_free kn 1
      have fkn_2 := blk_free kn 2
      have fkn_3 := blk_free kn 3
      have fkn_4 := blk_free kn 4
      have fkn_5 := blk_free kn 5
      have fkn_6 := blk_free kn 6
      have fkn_7 := blk_free kn 7
      have fkn_8 := blk_free kn 8
      go_enter Try.func92, Try.ntmps92
      go_wp2_with (go_at_call 65; with_reducible_and_instances refine Calls.mono (gw_at (cM2 _ bBel)) ?_; rintro e w1 ⟨rfl, q, rfl⟩)
      go_ret
      exact ⟨_, rfl, owns_below A.out bBel, Below.mono bBel hB⟩
    | true =>
      simp only [hm, if_true]
      have cM2 := fun w' h => cM w' h true hm
      clear cM hm
      obtain ⟨i0, hi, hz0, hz1, hz2⟩ := info_parts info_int20
      have okn := blk_older kn
      have ckn_0 : _ = some _ := blk_cell kn 0
      have ckn_1 : _ = some _ := blk_cell kn 1
      have ckn_2 : _ = some _ := blk_cell kn 2
      have ckn_3 : _ = some _ := blk_cell kn 3
      have ckn_4 : _ = some _ := blk_cell kn 4
      have ckn_5 : _ = some _ := blk_cell kn 5
      have ckn_6 : _ = some _ := blk_cell kn 6
      have ckn_7 : _ = some _ := blk_cell kn 7
      have ckn_8 : _ = some _ := blk_cell kn 8
      have fkn_0 := blk_free kn 0
      have fkn_1 := blk_free kn 1
      have fkn_2 := blk_free kn 2
      have fkn_3 := blk_free kn 3
      have fkn_4 := blk_free kn 4
      have fkn_5 := blk_free kn 5
      have fkn_6 := blk_free kn 6
      have fkn_7 := blk_free kn 7
      have fkn_8 := blk_free kn 8
      go_enter Try.func92, Try.ntmps92
      go_wp2_with (first | (go_at_call 65; with_reducible_and_instances refine Calls.mono (gw_at (cM2 _ bBel)) ?_; rintro e w1 ⟨rfl, q, rfl⟩) | (go_at_call 111; with_reducible_and_instances refine Calls.mono (gw_at (c1 _ bBel)) ?_; rintro e w1 ⟨rfl, q, rfl⟩) | (at_builtin; refine wpList_app1 rfl _ _ 63 rfl B0 3 i0 (.int .i64 0) 8 Try.underlying63 hi hz0 hz1 hz2 rfl _ _ _ rfl (owns_below hown bBel) _ (.int .i64 iQ) rfl (blk_cell (c := #[.int .i64 iQ]) bBkn 0) rfl (by unfold maxLen; omega) (by omega) (by first | (simp; omega) | omega) ?_; intro v' w2 hown2 hb2))
      go_ret
      refine ⟨_, rfl, ?_, Below.trans (Below.mono bBel hB) hb2⟩
      simp only [List.length_append, List.length_singleton]
      rw [iv_append]; exact hown2
  | node b l r ihl ihr =>
    intro w v xs hR hL hS kq hB hown hN
    have kn := hR b (hS _ (by simp [Tr.bs]))
    obtain ⟨e1, e2, e3, e4, e5, e6, e7, e8⟩ := hL
    have hlp := l.ht_pos
    have c1 := fun w' (h : Below w.heap.size w w') => isleaf_b b (M b) w' (blk_below h kn) false (by rw [e2]; simp; omega)
    obtain ⟨Q, hQ⟩ : ∃ Q, M b = Q := ⟨_, rfl⟩
    rw [hQ] at kn e1 e3 e4
    clear hQ e2 e5 e6 hlp
    obtain ⟨iQ, ⟨x0Q, y0Q, x1Q, y1Q⟩, hQ', pQ, lQ, rQ⟩ := Q
    dsimp only at e1 e3 e4
    subst e3 e4
    simp only [ndc, nptr_some] at kn
    generalize nptr pQ = PQ at *
    simp only [Tr.b, Tr.hits]
    rw [← e1]
    clear e1
    have cM := fun w' (h : Below w.heap.size w w') D hD => qfun_b q0 q1 q2 q3 x0Q y0Q x1Q y1Q Bq w' (blk_below h kq) D hD
    obtain ⟨lb, hlb⟩ : ∃ lb, Hid (l.b = lb) := ⟨_, rfl⟩
    obtain ⟨rb, hrb⟩ : ∃ rb, Hid (r.b = rb) := ⟨_, rfl⟩
    rw [hlb.out, hrb.out] at kn
    obtain ⟨D, hm⟩ : ∃ D, (fun b => Bx.ovl b ⟨q0, q1, q2, q3⟩) ⟨x0Q, y0Q, x1Q, y1Q⟩ = D := ⟨_, rfl⟩
    dsimp only at hm
    cases D with
    | false =>
      simp only [hm, Bool.false_eq_true, if_false, List.append_nil]
      have cM2 := fun w' h => cM w' h false hm
      have A : Hid (w.ownsRow B0 3 1 v xs.length (iv xs)) := hown
      clear cM hown hm ihl ihr e7 e8 hR hS hS0 c1
      have okn := blk_older kn
      have ckn_0 : _ = some _ := blk_cell kn 0
      have ckn_1 : _ = some _ := blk_cell kn 1
      have ckn_2 : _ = some _ := blk_cell kn 2
      have ckn_3 : _ = some _ := blk_cell kn 3
      have ckn_4 : _ = some _ := blk_cell kn 4
      have ckn_5 : _ = some _ := blk_cell kn 5
      have ckn_6 : _ = some _ := blk_cell kn 6
      have ckn_7 : _ = some _ := blk_cell kn 7
      have ckn_8 : _ = some _ := blk_cell kn 8
      have fkn_0 := blk_free kn 0
      have fkn_1 := blk_free kn 1
      have fkn_2 := blk_free kn 2
      have fkn_3 := blk_free kn 3
      have fkn_4 := blk_free kn 4
      have fkn_5 := blk_free kn 5
      have fkn_6 := blk_free kn 6
      have fkn_7 := blk_free kn 7
      have fkn_8 := blk_free kn 8
      go_enter Try.func92, Try.ntmps92
      go_wp2_with (go_at_call 65; with_reducible_and_instances refine Calls.mono (gw_at (cM2 _ bBel)) ?_; rintro e w1 ⟨rfl, q, rfl⟩)
      go_ret
      exact ⟨_, rfl, owns_below A.out bBel, Below.mono bBel hB⟩
    | true =>
      simp only [hm, if_true]
      have cM2 := fun w' h => cM w' h true hm
      clear cM hm
      have hN2 : xs.length + l.lv.length + r.lv.length ≤ 100000 := by simp only [Tr.lv, List.length_append] at hN; omega
      have hits_le : ∀ t : Tr, (t.hits (fun b => Bx.ovl b ⟨q0, q1, q2, q3⟩)).length ≤ t.lv.length := fun t => t.hits_len _
      have cL := fun (w' : World) (hb : Below B0 w w') (v' : Value) (ho : w'.ownsRow B0 3 1 v' xs.length (iv xs)) => ihl w' v' xs (hR.low hb hS0) e7 (fun c hc => hS c (by simp [Tr.bs, hc])) (blk_low kq hb hBq) (Nat.le_trans hB hb.size) ho (by omega)
      have cR := fun (w' : World) (hb : Below B0 w w') (v' : Value) (ho : w'.ownsRow B0 3 1 v' (xs ++ l.hits (fun b => Bx.ovl b ⟨q0, q1, q2, q3⟩)).length (iv (xs ++ l.hits (fun b => Bx.ovl b ⟨q0, q1, q2, q3⟩)))) => ihr w' v' (xs ++ l.hits (fun b => Bx.ovl b ⟨q0, q1, q2, q3⟩)) (hR.low hb hS0) e8 (fun c hc => hS c (by simp [Tr.bs, hc])) (blk_low kq hb hBq) (Nat.le_trans hB hb.size) ho (by have := hits_le l; rw [List.length_append]; omega)
      rw [hlb.out] at cL
      rw [hrb.out] at cR
      have cL2 : Hid _ := cL
      have cR2 : Hid _ := cR
      have A : Hid (w.ownsRow B0 3 1 v xs.length (iv xs)) := hown
      clear ihl ihr e7 e8 hR hS hown cL cR hits_le
      rw [← List.append_assoc]
      generalize l.hits (fun b => Bx.ovl b ⟨q0, q1, q2, q3⟩) = hl at *
      generalize r.hits (fun b => Bx.ovl b ⟨q0, q1, q2, q3⟩) = hr at *
      have okn := blk_older kn
      have ckn_0 : _ = some _ := blk_cell kn 0
      have ckn_1 : _ = some _ := blk_cell kn 1
      have ckn_2 : _ = some _ := blk_cell kn 2
      have ckn_3 : _ = some _ := blk_cell kn 3
      have ckn_4 : _ = some _ := blk_cell kn 4
      have ckn_5 : _ = some _ := blk_cell kn 5
      have ckn_6 : _ = some _ := blk_cell kn 6
      have ckn_7 : _ = some _ := blk_cell kn 7
      have ckn_8 : _ = some _ := blk_cell kn 8
      have fkn_0 := blk_free kn 0
      have fkn_1 := blk_free kn 1
      have fkn_2 := blk_free kn 2
      have fkn_3 := blk_free kn 3
      have fkn_4 := blk_free kn 4
      have fkn_5 := blk_free kn 5
      have fkn_6 := blk_free kn 6
      have fkn_7 := blk_free kn 7
      have fkn_8 := blk_free kn 8
      go_enter Try.func92, Try.ntmps92
      go_wp2_with (first | (go_at_call 65; with_reducible_and_instances refine Calls.mono (gw_at (cM2 _ bBel)) ?_; rintro e w1 ⟨rfl, q, rfl⟩) | (go_at_call 111; with_reducible_and_instances refine Calls.mono (gw_at (c1 _ bBel)) ?_; rintro e w1 ⟨rfl, q2, rfl⟩))
      go_loopw [1, 32] (fun ids i wr => Below B0 w wr ∧ ((i = .int .i64 0 ∧ wr.ownsRow B0 3 1 ids xs.length (iv xs)) ∨ (i = .int .i64 1 ∧ wr.ownsRow B0 3 1 ids (xs ++ hl).length (iv (xs ++ hl))) ∨ (i = .int .i64 2 ∧ wr.ownsRow B0 3 1 ids (xs ++ hl ++ hr).length (iv (xs ++ hl ++ hr))))) (fun _ i _ => (2 - intOf i).toNat)
      case atStart => exact ⟨Below.mono bBel hB, .inl ⟨rfl, owns_below A.out bBel⟩⟩
      case round =>
        obtain ⟨hb, h⟩ := hrel
        rcases h with ⟨rfl, ho⟩ | ⟨rfl, ho⟩ | ⟨rfl, ho⟩
        · have cc := cL2.out _ hb _ ho
          go_wp2_with (go_at_call 92; with_reducible_and_instances refine Calls.mono cc ?_; rintro e w1 ⟨v1, rfl, ho1, hb1⟩)
          refine ⟨⟨Below.trans hb hb1, .inr (.inl ⟨rfl, ho1⟩)⟩, by simp [intOf]⟩
        · have cc := cR2.out _ hb _ ho
          go_wp2_with (go_at_call 92; with_reducible_and_instances refine Calls.mono cc ?_; rintro e w1 ⟨v1, rfl, ho1, hb1⟩)
          refine ⟨⟨Below.trans hb hb1, .inr (.inr ⟨rfl, ho1⟩)⟩, by simp [intOf]⟩
        · go_wp2_with fail
          go_ret
          exact ⟨_, rfl, ho, hb⟩

end Go.Proofs.Ytfhhkabdeajieaa
