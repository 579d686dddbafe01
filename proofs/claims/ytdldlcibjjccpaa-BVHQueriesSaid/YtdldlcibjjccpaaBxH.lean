import Derived.Test.YtdldlcibjjccpaaBxG
import Derived.Test.YtdldlcibjjccpaaBwG
import Derived.Deep.DeepCutAuto
import Derived.Deep.RegionHeld3
set_option linter.unusedVariables false
set_option linter.unusedSimpArgs false
namespace Go.Proofs.Ytdldlcibjjccpaa
open Go.RowKit Fx

theorem mem_apT {L : Bxs} {o : Opr} {e : Int × Bx} (h : e ∈ apT L o) : e ∈ L ∨ e.1 = o.i := by
  unfold apT at h
  split at h
  · exact insT_mem h
  · split at h
    · exact .inl (mem_remL.1 h).1
    · split at h
      · unfold updT at h
        split at h
        · rcases mem_insL.1 h with rfl | h
          · exact .inr rfl
          · exact .inl (mem_remL.1 h).1
        · exact .inl h
      · exact .inl h

/-- The state of the ids: their row, apart from the tree's blocks. -/
def IdS (w : World) (B : Nat) (v : Value) (ids : List Int) (L : Bxs) (S : Nat → Prop) (k : Nat) : Prop :=
  (∀ e ∈ L, e.1 ∈ ids) ∧ ids.Pairwise (· < ·) ∧ ids.length ≤ k ∧ w.ownsRow B 3 1 v ids.length (iv ids) ∧ (∀ g, v.ownBlock = some g → ¬ S g) ∧ ((k = 0 ∧ v = .slice none 0 0 ∧ ids = []) ∨ (0 < k ∧ 0 < ids.length)) ∧ ∀ i ∈ ids, i64k i
theorem ids_turn {w w' : World} {B : Nat} {v : Value} {ids : List Int} {L : Bxs} {S S' : Nat → Prop} {k : Nat} (h : IdS w B v ids L S k) (hb : But S w w') (hs : ∀ k, S' k → S k ∨ w.heap.size ≤ k) : w'.ownsRow B 3 1 v ids.length (iv ids) ∧ ∀ g, v.ownBlock = some g → ¬ S' g := by
  obtain ⟨h1, h2, h3, h4, h5, h6, h7⟩ := h
  refine ⟨owns_but h4 hb h5, fun g hg hh => ?_⟩
  rcases hs g hh with h | h
  · exact h5 g hg h
  · have := (World.ownsRow.lt h4 g hg).2; omega

/-- Three own rows apart from each other: the hits, the hits of the segment, the pairs. -/
def Q3 (w : World) (B : Nat) (vq vr vp : Value) (q r : List Int) (p : List (Int × Int)) : Prop :=
  w.ownsRow B 3 1 vq q.length (iv q) ∧ w.ownsRow B 3 1 vr r.length (iv r) ∧ w.ownsRow B 41 2 vp p.length (pv p) ∧ (∀ g, vq.ownBlock = some g → vr.ownBlock ≠ some g ∧ vp.ownBlock ≠ some g) ∧ ∀ g, vr.ownBlock = some g → vp.ownBlock ≠ some g
theorem Q3.below {w w' : World} {B : Nat} {vq vr vp : Value} {q r : List Int} {p : List (Int × Int)} (h : Q3 w B vq vr vp q r p) (hb : Below w.heap.size w w') : Q3 w' B vq vr vp q r p :=
  ⟨owns_below h.1 hb, owns_below h.2.1 hb, owns_below h.2.2.1 hb, h.2.2.2⟩
theorem apart {a b : Value} (h : ∀ g, a.ownBlock = some g → b.ownBlock ≠ some g) : a.ownBlock = none ∨ b.ownBlock ≠ a.ownBlock := by
  rcases ha : a.ownBlock with _ | g
  · exact .inl rfl
  · exact .inr (h g ha)
theorem Q3.addq {w w' : World} {B : Nat} {vq vr vp vq' : Value} {q r : List Int} {p : List (Int × Int)} {x : Int} (h : Q3 w B vq vr vp q r p) (ho : w'.ownsRow B 3 1 vq' (q.length + 1) (iv q ++ [.int .i64 x])) (hg : w.grownBy w' vq.ownBlock) (hb : vq'.ownBlock = vq.ownBlock ∨ vq'.ownBlock = some w.heap.size) : Q3 w' B vq' vr vp (q ++ [x]) r p := by
  obtain ⟨h1, h2, h3, h4, h5⟩ := h
  refine ⟨own_cast ho (by simp) (by simp [iv]), owns_grown h2 hg (apart fun g e => (h4 g e).1), owns_grown h3 hg (apart fun g e => (h4 g e).2), fun g hgg => ?_, h5⟩
  rcases hb with e | e
  · exact h4 g (e ▸ hgg)
  · rw [e] at hgg
    cases hgg
    exact ⟨own_ne h2 (Nat.le_refl _), own_ne h3 (Nat.le_refl _)⟩
theorem Q3.addr {w w' : World} {B : Nat} {vq vr vp vr' : Value} {q r : List Int} {p : List (Int × Int)} {x : Int} (h : Q3 w B vq vr vp q r p) (ho : w'.ownsRow B 3 1 vr' (r.length + 1) (iv r ++ [.int .i64 x])) (hg : w.grownBy w' vr.ownBlock) (hb : vr'.ownBlock = vr.ownBlock ∨ vr'.ownBlock = some w.heap.size) : Q3 w' B vq vr' vp q (r ++ [x]) p := by
  obtain ⟨h1, h2, h3, h4, h5⟩ := h
  refine ⟨owns_grown h1 hg (apart fun g e e2 => (h4 g e2).1 e), own_cast ho (by simp) (by simp [iv]), owns_grown h3 hg (apart h5), fun g hgg => ⟨?_, (h4 g hgg).2⟩, fun g hgg => ?_⟩
  · rcases hb with e | e
    · rw [e]; exact (h4 g hgg).1
    · rw [e]; intro e2; cases e2; exact own_ne h1 (Nat.le_refl _) hgg
  · rcases hb with e | e
    · exact h5 g (e ▸ hgg)
    · rw [e] at hgg; cases hgg; exact own_ne h3 (Nat.le_refl _)
theorem flat_len20 {α β : Type} (f : α → List β) (c : Nat) (hf : ∀ a, (f a).length ≤ c) : ∀ l : List α, (l.flatMap f).length ≤ l.length * c
  | [] => by simp
  | a :: t => by
    have := flat_len20 f c hf t
    have h1 := hf a
    rw [List.flatMap_cons, List.length_append, List.length_cons, Nat.succ_mul]; omega
theorem prs_len20 (L : Bxs) (e : Int × Bx) : (prs L e).length ≤ L.length := by
  unfold prs
  rw [List.length_map]
  exact Nat.le_trans (List.length_filter_le _ _) (hitL_len _ _)
theorem prK_len (L : Bxs) (ids : List Int) (k : Nat) : (prK L ids k).length ≤ k * L.length := by
  refine Nat.le_trans (flat_len20 (prs L) L.length (prs_len20 L) _) (Nat.mul_le_mul_right _ ?_)
  unfold pick
  refine Nat.le_trans (List.length_filterMap_le _ _) ?_
  simp; omega
theorem below_ga (Y : World) (q : Gw) (o : Obj) : Below Y.heap.size Y ((gw Y q).alloc o) := (below_gw Y q).alloc (below_gw Y q).size o
theorem own_cast2 {w : World} {B n n' : Nat} {e : TypeId} {v : Value} {xs xs' : List Value} (h : w.ownsRow B e 2 v n xs) (hn : n = n') (hx : xs = xs') : w.ownsRow B e 2 v n' xs' := by subst hn; subst hx; exact h
theorem Q3.addp {w w' : World} {B : Nat} {vq vr vp vp' : Value} {q r : List Int} {p : List (Int × Int)} {x y : Int} (h : Q3 w B vq vr vp q r p) (ho : w'.ownsRow B 41 2 vp' (p.length + 1) (pv p ++ [.int .i64 x, .int .i64 y])) (hg : w.grownBy w' vp.ownBlock) (hb : vp'.ownBlock = vp.ownBlock ∨ vp'.ownBlock = some w.heap.size) : Q3 w' B vq vr vp' q r (p ++ [(x, y)]) := by
  obtain ⟨h1, h2, h3, h4, h5⟩ := h
  refine ⟨owns_grown h1 hg (apart fun g e e2 => (h4 g e2).2 e), owns_grown h2 hg (apart fun g e e2 => h5 g e2 e), own_cast2 ho (by simp) (by rw [pv_append20]; simp [pv]), fun g hgg => ⟨(h4 g hgg).1, ?_⟩, fun g hgg => ?_⟩
  · rcases hb with e | e
    · rw [e]; exact (h4 g hgg).2
    · rw [e]; intro e2; cases e2; exact own_ne h1 (Nat.le_refl _) hgg
  · rcases hb with e | e
    · rw [e]; exact h5 g hgg
    · rw [e]; intro e2; cases e2; exact own_ne h2 (Nat.le_refl _) hgg

set_option maxRecDepth 100000 in
set_option maxHeartbeats 8000000 in
theorem query_long (A : Option Addr) (cap : Nat) (l : List Opr) (x0 y0 x1 y1 fx fy tx ty : Int) (w : World) (hl : 60 < (l.length : Int)) : Calls Try.prog 3 #[.slice A l.length cap, .agg #[.int .i64 x0, .int .i64 y0, .int .i64 x1, .int .i64 y1], .agg #[.int .i64 fx, .int .i64 fy], .agg #[.int .i64 tx, .int .i64 ty]] w fun e w' => e = .returned (.bool true) ∧ Below w.heap.size w w' := by
  have cE : ExC := example20_b
  go_enter Try.func3, Try.ntmps3
  go_wp2_with (go_at_call 10; refine Calls.mono (gw_at (cE _)) ?_; rintro e w1 ⟨rfl, qE, rfl⟩)
  go_ret
  exact ⟨rfl, bBel⟩

set_option maxRecDepth 100000 in
set_option maxHeartbeats 64000000 in
theorem query_main (A : Option Addr) (cap : Nat) (l : List Opr) (x0 y0 x1 y1 fx fy tx ty : Int) (w : World) (ha : Oprs w A l) (hl : l.length ≤ 60) : Calls Try.prog 3 #[.slice A l.length cap, .agg #[.int .i64 x0, .int .i64 y0, .int .i64 x1, .int .i64 y1], .agg #[.int .i64 fx, .int .i64 fy], .agg #[.int .i64 tx, .int .i64 ty]] w fun e w' => e = .returned (.bool true) ∧ Below w.heap.size w w' := by
  have cE : ExC := example20_b
  obtain ⟨n, hn'⟩ : ∃ n, l.length = n := ⟨_, rfl⟩
  rw [hn'] at hl ⊢
  have hn : Hid (l.length = n) := hn'
  clear hn'
  have hni : ¬ (60 : Int) < (n : Int) := by omega
  go_enter Try.func3, Try.ntmps3
  go_upto_region 3 with fail
  refine wp_named ?_
  intro W hW
  have kb : blk W w.heap.size #[.int .i64 x0, .int .i64 y0, .int .i64 x1, .int .i64 y1] 26 := by rw [hW]; exact bBkn
  have kf : blk W (w.heap.size + 1) #[.int .i64 fx, .int .i64 fy] 24 := by rw [hW]; exact bBkn
  have kt : blk W (w.heap.size + 2) #[.int .i64 tx, .int .i64 ty] 24 := by rw [hW]; exact bBkn
  have hbW : Below w.heap.size w W := by rw [hW]; exact bBel
  clear hW
  have hltt := blk_lt kt
  have hszW := hbW.size
  go_upto_region 4 with (go_at_call 11; with_reducible_and_instances refine Calls.mono (new_b _) ?_; rintro e W0 ⟨rfl, kt0, hb0⟩; have hT0 := new_tree kt0; clear kt0)
  go_wp2_with fail
  go_loopw [10, 11] (fun v i wr => ∃ k : Nat, k ≤ n ∧ i = .int .i64 (k : Int) ∧ ∃ L S ids, Hid (IdS wr W.heap.size v ids L S k) ∧ TreeAt wr W.heap.size L S ∧ Hid (∀ k, S k → W.heap.size ≤ k) ∧ Below W.heap.size W wr) (fun _ i _ => n - (intOf i).toNat)
  case atStart => exact ⟨0, by omega, rfl, [], _, [], (show IdS _ _ _ [] [] _ 0 from ⟨fun e he => (by cases he), List.Pairwise.nil, Nat.le_refl _, World.ownsRow_nil _ _ _ _, fun g hg => (by cases hg), .inl ⟨rfl, rfl, rfl⟩, fun i hi => (by cases hi)⟩), hT0.below bBel, (show ∀ k, k = W.heap.size → W.heap.size ≤ k from fun k h => by omega), bBel⟩
  case round =>
    clear hT0 hb0
    obtain ⟨k, hk, rfl, L, S, ids, hG, hT, hS, hb⟩ := hrel
    have hszR := hb.size
    by_cases hkn : k < n
    · have hki : (k : Int) < (n : Int) := by omega
      have hkl : k < l.length := by have := hn.out; omega
      obtain ⟨b, off, rfl, hbl, hcell⟩ := oprs_open ha (by omega)
      obtain ⟨hik, hcell⟩ := hcell k hkl
      obtain ⟨o, d0, d1, d2, d3, d4, d5⟩ := hcell wr (hbW.trans (hb.mono hszW))
      have hcB : ∀ w', Below W.heap.size W w' → older b w' = true ∧ w'.cell? ⟨b, off + k * 6 + 1, none⟩ = some (.int .i64 l[k].i) := fun w' h => ⟨(hcell w' (hbW.trans (h.mono hszW))).1, (hcell w' (hbW.trans (h.mono hszW))).2.2.1⟩
      clear hcell
      generalize l[k] = op at *
      have cA := fun w' h => apply_b W.heap.size L S op hik w' h
      have hmem : Hid (∀ e, e ∈ apT L op → e ∈ L ∨ e.1 = op.i) := show ∀ e, e ∈ apT L op → e ∈ L ∨ e.1 = op.i from fun e h => mem_apT h
      obtain ⟨ok, oi, o0, o1, o2, o3⟩ := op
      dsimp only at d0 d1 d2 d3 d4 d5 cA hcB hmem
      unfold ApR at cA
      generalize apN L ⟨ok, oi, o0, o1, o2, o3⟩ = rN at *
      generalize apB L ⟨ok, oi, o0, o1, o2, o3⟩ = rB at *
      generalize apI L ⟨ok, oi, o0, o1, o2, o3⟩ = rI at *
      generalize apT L ⟨ok, oi, o0, o1, o2, o3⟩ = L2 at *
      clear hkl
      go_upto_region 9 with (go_at_call 12; refine Calls.mono (cA _ (hT.below bBel)) ?_; rintro e W2 ⟨v1, rfl, -, S2, hT2, hB2, hs2⟩)
      have hb2 : Below W.heap.size W W2 := hb.trans (bel_of_but hB2 (fun k hk => hS.out k hk) (by omega))
      have hS2 : Hid (∀ k, S2 k → W.heap.size ≤ k) := show ∀ k, S2 k → W.heap.size ≤ k from fun k hk => by
        rcases hs2 k hk with h | h
        · exact hS.out k h
        · omega
      obtain ⟨hrw, hdj'⟩ := ids_turn hG.out hB2 hs2
      have hdj : Hid (∀ g, u10.ownBlock = some g → ¬ S2 g) := hdj'
      have hS2l : Hid (∀ k, S2 k → k < W2.heap.size) := show ∀ k, S2 k → k < W2.heap.size from fun k hk => hT2.lt k hk
      clear hdj' hB2 hs2 hS hT hb cA
      have hsz2 := hb2.size
      obtain ⟨o', e1⟩ := hcB W2 hb2
      clear hcB
      obtain ⟨h1, h2, h3, -, -, h6, h7⟩ := hG.out
      have hI64 : Hid (∀ j ∈ insI ids oi, i64k j) := show ∀ j ∈ insI ids oi, i64k j from fun j hj => ((insI_mem _ _ _).1 hj).elim (fun h => by rw [h]; exact hik) (h7 j)
      clear h7
      have hK : Hid (∀ e ∈ L2, e.1 ∈ insI ids oi) := show ∀ e ∈ L2, e.1 ∈ insI ids oi from fun e he => (insI_mem _ _ _).2 ((hmem.out e he).elim (fun h => .inr (h1 e h)) .inl)
      have hP : Hid ((insI ids oi).Pairwise (· < ·)) := insI_srt h2 oi
      have hLn := insI_len ids oi
      clear h1 h2 hmem hG
      rcases h6 with ⟨rfl, rfl, rfl⟩ | ⟨hk0, hpos⟩
      · have e1' : W2.cell? ⟨b, off + 1, none⟩ = some (.int .i64 oi) := by simpa using e1
        go_wp2_with (go_at_call 13; refine Calls.mono (gw_ex (insid0_b oi _)) ?_; rintro e w1 ⟨⟨v2, rfl, ho2⟩, q2, rfl⟩)
        refine ⟨⟨1, by omega, by go_num, L2, S2, [oi], (show IdS _ _ _ _ _ _ _ from ⟨hK.out, List.pairwise_singleton _ _, by simp, owns_base ho2 (by omega), fun g hg hh => by
          have := (World.ownsRow.lt ho2 g hg).1
          have := hS2l.out g hh
          omega, .inr ⟨by omega, by simp⟩, hI64.out⟩), hT2.below bBel, hS2, bBel⟩, by (try go_num); simp [intOf]; (try omega)⟩
      · obtain ⟨g, cap2, rest, rfl, hg, kg, hnc⟩ := own_some hrw hpos
        have cI := insid_b g ids.length cap2 ids rest oi W2 kg rfl hpos hnc (by omega)
        have hrw := own_hid hrw
        clear kg
        go_wp2_with (go_at_call 13; refine Calls.mono (gw_ex cI) ?_; rintro e w1 ⟨⟨v2, rfl, hv2⟩, q2, rfl⟩)
        rcases hv2.out with ⟨rfl, hI⟩ | ho2
        · refine ⟨⟨k + 1, by omega, by go_num, L2, S2, insI ids oi, (show IdS _ _ _ _ _ _ _ from ⟨hK.out, hP.out, by omega, (by rw [hI]; exact owns_below hrw.out bBel), hdj.out, .inr ⟨by omega, hLn.1⟩, hI64.out⟩), hT2.below bBel, hS2, bBel⟩, by (try go_num); simp [intOf]; (try omega)⟩
        · refine ⟨⟨k + 1, by omega, by go_num, L2, S2, insI ids oi, (show IdS _ _ _ _ _ _ _ from ⟨hK.out, hP.out, by omega, owns_base ho2 (by omega), fun g hg hh => by
            have := (World.ownsRow.lt ho2 g hg).1
            have := hS2l.out g hh
            omega, .inr ⟨by omega, hLn.1⟩, hI64.out⟩), hT2.below bBel, hS2, bBel⟩, by (try go_num); simp [intOf]; (try omega)⟩
    · obtain rfl : k = n := by omega
      obtain ⟨hm, hP, hNl, hrow, hdj, -, hi64⟩ := hG.out
      have hm : Hid (∀ e ∈ L, e.1 ∈ ids) := hm
      have hP : Hid (ids.Pairwise (· < ·)) := hP
      have hi64 : Hid (∀ i ∈ ids, i64k i) := hi64
      clear hdj hG ha hS
      have hsrt : Hid (Srt L) := hT.srt
      have hLl := hT.len
      generalize wr = V at *
      have kbV := blk_low kb hb (by omega)
      have kfV := blk_low kf hb (by omega)
      have ktV := blk_low kt hb (by omega)
      have hbV : Below w.heap.size w V := hbW.trans (hb.mono hszW)
      clear kb kf kt hb hbW hn
      have l1 := fun ty W => row_len u_ints hrow ty W
      have i1 := fun k (hk : k < ids.length) => ints_ix hrow hk
      have hrow := own_hid hrow
      obtain ⟨N, hN'⟩ : ∃ N, ids.length = N := ⟨_, rfl⟩
      rw [hN'] at l1 hNl
      have hN : Hid (ids.length = N) := hN'
      clear hN'
      obtain ⟨i0, hi, hz0, hz1, hz2⟩ := info_parts info_int20
      obtain ⟨j0, hj, hy0, hy1, hy2⟩ := info_parts info_pair
      go_wp2_with fail
      go_loopw [12, 13, 14, 15, 16] (fun vq vr vp nn i wr => ∃ k : Nat, k ≤ N ∧ i = .int .i64 (k : Int) ∧ (∃ m : Nat, nn = .int .i64 (m : Int) ∧ m ≤ k ∧ Hid (m = (pick L (ids.take k)).length)) ∧ Hid (Q3 wr V.heap.size vq vr vp (hitL (pick L (ids.take k)) (fun b => Bx.ovl b ⟨x0, y0, x1, y1⟩)) (hitL (pick L (ids.take k)) (fun b => Bx.seg b fx fy tx ty)) (prK L ids k)) ∧ Below V.heap.size V wr) (fun _ _ _ _ i _ => N - (intOf i).toNat)
      case atStart => exact ⟨0, by omega, rfl, ⟨0, rfl, by omega, rfl⟩, (show Q3 _ _ _ _ _ _ _ _ from ⟨World.ownsRow_nil _ _ _ _, World.ownsRow_nil _ _ _ _, World.ownsRow_nil _ _ _ _, fun g hg => (by cases hg), fun g hg => (by cases hg)⟩), bBel⟩
      case round =>
        obtain ⟨k2, hk2, rfl, ⟨m, rfl, hmk, hm2⟩, hQ, hbR⟩ := hrel
        have hszR2 := hbR.size
        by_cases hkN : k2 < N
        · have hkNi : (k2 : Int) < (N : Int) := by omega
          have hkl : k2 < ids.length := by have := hN.out; omega
          obtain ⟨g, -, j1, c1⟩ := i1 k2 hkl
          obtain ⟨og, d0⟩ := c1 wr hbR
          have hik : i64k ids[k2] := hi64.out _ (List.getElem_mem hkl)
          have hsn := take_snoc hkl
          rcases hlk : look L ids[k2] with _ | x
          · have hps : Hid (pick L (ids.take (k2 + 1)) = pick L (ids.take k2)) := by
              show _ = _
              rw [hsn, pick_app, pick_none hlk, List.append_nil]
            have cB := fun w' h => bounds_b W.heap.size L S ids[k2] hik w' h
            simp only [hlk, Option.getD_none, Option.isSome_none, Bx.zero] at cB
            generalize ids[k2] = ii at *
            clear hsn hlk hik
            go_wp2_with (go_at_call 14; refine Calls.mono (gw_at (cB _ (hT.below bBel))) ?_; rintro e w1 ⟨rfl, qB, rfl⟩)
            refine ⟨⟨k2 + 1, by omega, by go_num, ⟨m, rfl, by omega, (show m = _ by rw [hps.out]; exact hm2.out)⟩, (by show Q3 _ _ _ _ _ _ _ _; unfold prK; rw [hps.out]; exact Q3.below hQ.out bBel), bBel⟩, by (try go_num); simp [intOf]; (try omega)⟩
          · obtain ⟨a0, a1, a2, a3⟩ := x
            have hps : Hid (pick L (ids.take (k2 + 1)) = pick L (ids.take k2) ++ [(ids[k2], ⟨a0, a1, a2, a3⟩)]) := by
              show _ = _
              rw [hsn, pick_app, pick_some hlk]
            have hpa : Hid (prI L ids k2 ids.length ids[k2] ⟨a0, a1, a2, a3⟩ = prs L (ids[k2], ⟨a0, a1, a2, a3⟩)) := prI_all hsrt.out hP.out hm.out hkl _
            have cB := fun w' h => bounds_b W.heap.size L S ids[k2] hik w' h
            simp only [hlk, Option.getD_some, Option.isSome_some] at cB
            generalize ids[k2] = ii at *
            clear hsn hlk hik
            obtain ⟨D1, hD1⟩ : ∃ D, Bx.ovl ⟨a0, a1, a2, a3⟩ ⟨x0, y0, x1, y1⟩ = D := ⟨_, rfl⟩
            obtain ⟨D2, hD2⟩ : ∃ D, Bx.seg ⟨a0, a1, a2, a3⟩ fx fy tx ty = D := ⟨_, rfl⟩
            have cO := fun w' => xovl_b a0 a1 a2 a3 x0 y0 x1 y1 w'
            have cG := fun w' => xseg_b a0 a1 a2 a3 fx fy tx ty w'
            rw [show ovl8 a0 a1 a2 a3 x0 y0 x1 y1 = D1 from hD1] at cO
            rw [show seg8 a0 a1 a2 a3 fx fy tx ty = D2 from hD2] at cG
            have hq1 : Hid (hitL (pick L (ids.take (k2 + 1))) (fun b => Bx.ovl b ⟨x0, y0, x1, y1⟩) = hitL (pick L (ids.take k2)) (fun b => Bx.ovl b ⟨x0, y0, x1, y1⟩) ++ if D1 then [ii] else []) := by
              show _ = _
              rw [hps.out]
              simp only [hitL, List.filter_append, List.map_append, List.filter_cons, List.filter_nil, hD1]
              cases D1 <;> rfl
            have hq2 : Hid (hitL (pick L (ids.take (k2 + 1))) (fun b => Bx.seg b fx fy tx ty) = hitL (pick L (ids.take k2)) (fun b => Bx.seg b fx fy tx ty) ++ if D2 then [ii] else []) := by
              show _ = _
              rw [hps.out]
              simp only [hitL, List.filter_append, List.map_append, List.filter_cons, List.filter_nil, hD2]
              cases D2 <;> rfl
            clear hD1 hD2
            have hQl : (hitL (pick L (ids.take k2)) (fun b => Bx.ovl b ⟨x0, y0, x1, y1⟩)).length ≤ 100 := Nat.le_trans (hitL_len _ _) (by have := hm2.out; omega)
            have hRl : (hitL (pick L (ids.take k2)) (fun b => Bx.seg b fx fy tx ty)).length ≤ 100 := Nat.le_trans (hitL_len _ _) (by have := hm2.out; omega)
            generalize hitL (pick L (ids.take k2)) (fun b => Bx.ovl b ⟨x0, y0, x1, y1⟩) = qk at *
            generalize hitL (pick L (ids.take k2)) (fun b => Bx.seg b fx fy tx ty) = rk at *
            go_upto_region 19 with (go_at_call 14; refine Calls.mono (gw_at (cB _ (hT.below bBel))) ?_; rintro e w1 ⟨rfl, qB, rfl⟩)
            refine wp_named ?_
            intro Y hY
            have kx : blk Y (wr.heap.size + qB.os.size) #[.int .i64 a0, .int .i64 a1, .int .i64 a2, .int .i64 a3] 26 := by rw [hY]; exact bBkn
            have hbY : Below wr.heap.size wr Y := by rw [hY]; exact bBel
            clear hY
            have hQY : Hid (Q3 Y V.heap.size u12 u13 u14 qk rk (prK L ids k2)) := Q3.below hQ.out hbY
            have hlo : Hid (∀ v g, (v = u12 ∨ v = u13 ∨ v = u14) → v.ownBlock = some g → g < wr.heap.size) := show ∀ v g, (v = u12 ∨ v = u13 ∨ v = u14) → v.ownBlock = some g → g < wr.heap.size from fun v g hv hg => by
              rcases hv with rfl | rfl | rfl
              · exact (World.ownsRow.lt hQ.out.1 g hg).2
              · exact (World.ownsRow.lt hQ.out.2.1 g hg).2
              · exact (World.ownsRow.lt hQ.out.2.2.1 g hg).2
            have hbVY : Below V.heap.size V Y := hbR.trans (hbY.mono hszR2)
            have hbx : wr.heap.size ≤ wr.heap.size + qB.os.size := by omega
            have hbx2 := blk_lt kx
            clear hbY hQ cB
            generalize wr.heap.size + qB.os.size = bx at *
            have hszY := hbVY.size
            have kbY := blk_below hbVY kbV
            clear d0 og hbR
            have okx := blk_older kx
            have ckx_0 : _ = some _ := blk_cell kx 0
            have ckx_1 : _ = some _ := blk_cell kx 1
            have ckx_2 : _ = some _ := blk_cell kx 2
            have ckx_3 : _ = some _ := blk_cell kx 3
            have fkx_0 := blk_free kx 0
            have fkx_1 := blk_free kx 1
            have fkx_2 := blk_free kx 2
            have fkx_3 := blk_free kx 3
            have okbY := blk_older kbY
            have ckbY_0 : _ = some _ := blk_cell kbY 0
            have ckbY_1 : _ = some _ := blk_cell kbY 1
            have ckbY_2 : _ = some _ := blk_cell kbY 2
            have ckbY_3 : _ = some _ := blk_cell kbY 3
            have fkbY_0 := blk_free kbY 0
            have fkbY_1 := blk_free kbY 1
            have fkbY_2 := blk_free kbY 2
            have fkbY_3 := blk_free kbY 3
            go_upto_if 67 with (go_at_call 15; refine Calls.mono (gw_at (cO _)) ?_; rintro e w1 ⟨rfl, qO, rfl⟩)
            go_cut [12] (fun vq' wx => Hid (Q3 wx V.heap.size vq' u13 u14 (qk ++ if D1 then [ii] else []) rk (prK L ids k2)) ∧ Below V.heap.size V wx ∧ blk wx bx #[.int .i64 a0, .int .i64 a1, .int .i64 a2, .int .i64 a3] 26)
            case first =>
              cases D1
              · go_wp2_with fail
                go_meet
                exact ⟨(by show Q3 _ _ _ _ _ _ _ _; simp only [Bool.false_eq_true, if_false, List.append_nil]; exact Q3.below hQY.out bBel), bBel, blk_below bBel kx⟩
              · have hown := hQY.out.1
                have hne : u12.ownBlock ≠ some bx := fun e => by have := hlo.out u12 bx (.inl rfl) e; omega
                obtain ⟨og, d0⟩ := c1 (gw Y qO) (hbVY.trans bBel)
                go_wp2_with (at_builtin; refine wpList_app10 rfl _ _ 30 rfl V.heap.size 3 i0 (.int .i64 0) 8 (by kernel_rfl) hi hz0 hz1 hz2 rfl _ _ _ rfl (owns_below hown bBel) _ (.int .i64 ii) 3 rfl bBkn rfl (by unfold maxLen; omega) (by omega) (by first | (simp; omega) | omega) ?_; intro v' w2 hown2 hb2 hg2 ho2)
                go_meet
                exact ⟨(by show Q3 _ _ _ _ _ _ _ _; simp only [if_true]; exact Q3.addq (Q3.below hQY.out (below_ga Y qO _)) hown2 hg2 ho2), (hbVY.trans ((below_ga Y qO _).mono hszY)).trans hb2, blk_grown20 hg2 (blk_below (below_ga Y qO _) kx) hne⟩
            case rest =>
            obtain ⟨hQZ, hbVZ, kxZ⟩ := hcut
            generalize wc = Z at *
            have hszZ := hbVZ.size
            have kfZ := blk_below hbVZ kfV
            have ktZ := blk_below hbVZ ktV
            clear hQY hbVY kx kbY hbx2 hszY cO
            rw [← hq1.out] at hQZ
            clear hq1 hQl
            generalize hq1e' : hitL (pick L (ids.take (k2 + 1))) (fun b => Bx.ovl b ⟨x0, y0, x1, y1⟩) = q2 at *
            have hq1e : Hid (hitL (pick L (ids.take (k2 + 1))) (fun b => Bx.ovl b ⟨x0, y0, x1, y1⟩) = q2) := hq1e'
            clear hq1e'
            have hbxZ := blk_lt kxZ
            have okxZ := blk_older kxZ
            have ckxZ_0 : _ = some _ := blk_cell kxZ 0
            have ckxZ_1 : _ = some _ := blk_cell kxZ 1
            have ckxZ_2 : _ = some _ := blk_cell kxZ 2
            have ckxZ_3 : _ = some _ := blk_cell kxZ 3
            have fkxZ_0 := blk_free kxZ 0
            have fkxZ_1 := blk_free kxZ 1
            have fkxZ_2 := blk_free kxZ 2
            have fkxZ_3 := blk_free kxZ 3
            have okfZ := blk_older kfZ
            have ckfZ_0 : _ = some _ := blk_cell kfZ 0
            have ckfZ_1 : _ = some _ := blk_cell kfZ 1
            have fkfZ_0 := blk_free kfZ 0
            have fkfZ_1 := blk_free kfZ 1
            have oktZ := blk_older ktZ
            have cktZ_0 : _ = some _ := blk_cell ktZ 0
            have cktZ_1 : _ = some _ := blk_cell ktZ 1
            have fktZ_0 := blk_free ktZ 0
            have fktZ_1 := blk_free ktZ 1
            go_upto_if 78 with (go_at_call 16; refine Calls.mono (gw_at (cG _)) ?_; rintro e w1 ⟨rfl, qG, rfl⟩)
            go_cut [13] (fun vr' wx => Hid (Q3 wx V.heap.size u12 vr' u14 q2 (rk ++ if D2 then [ii] else []) (prK L ids k2)) ∧ Below V.heap.size V wx ∧ blk wx bx #[.int .i64 a0, .int .i64 a1, .int .i64 a2, .int .i64 a3] 26)
            case first =>
              cases D2
              · go_wp2_with fail
                go_meet
                exact ⟨(by show Q3 _ _ _ _ _ _ _ _; simp only [Bool.false_eq_true, if_false, List.append_nil]; exact Q3.below hQZ.out bBel), bBel, blk_below bBel kxZ⟩
              · have hown := hQZ.out.2.1
                have hne : u13.ownBlock ≠ some bx := fun e => by have := hlo.out u13 bx (.inr (.inl rfl)) e; omega
                obtain ⟨og, d0⟩ := c1 (gw Z qG) (hbVZ.trans bBel)
                go_wp2_with (at_builtin; refine wpList_app10 rfl _ _ 30 rfl V.heap.size 3 i0 (.int .i64 0) 8 (by kernel_rfl) hi hz0 hz1 hz2 rfl _ _ _ rfl (owns_below hown bBel) _ (.int .i64 ii) 3 rfl bBkn rfl (by unfold maxLen; omega) (by omega) (by first | (simp; omega) | omega) ?_; intro v' w2 hown2 hb2 hg2 ho2)
                go_meet
                exact ⟨(by show Q3 _ _ _ _ _ _ _ _; simp only [if_true]; exact Q3.addr (Q3.below hQZ.out (below_ga Z qG _)) hown2 hg2 ho2), (hbVZ.trans ((below_ga Z qG _).mono hszZ)).trans hb2, blk_grown20 hg2 (blk_below (below_ga Z qG _) kxZ) hne⟩
            case rest =>
            obtain ⟨hQU, hbVU, kxU⟩ := hcut
            generalize wc = U at *
            have hszU := hbVU.size
            have hne14 : Hid (u14.ownBlock ≠ some bx) := fun e => by have := hlo.out u14 bx (.inr (.inr rfl)) e; omega
            clear hQZ hbVZ kxZ kfZ ktZ cG hbxZ hszZ
            rw [← hq2.out] at hQU
            clear hq2 hRl hlo
            generalize hq2e' : hitL (pick L (ids.take (k2 + 1))) (fun b => Bx.seg b fx fy tx ty) = r2 at *
            have hq2e : Hid (hitL (pick L (ids.take (k2 + 1))) (fun b => Bx.seg b fx fy tx ty) = r2) := hq2e'
            clear hq2e'
            have hbxU := blk_lt kxU
            go_wp2_with fail
            go_loopw [14, 19] (fun vp j wx => ∃ m2 : Nat, k2 + 1 ≤ m2 ∧ m2 ≤ N ∧ j = .int .i64 (m2 : Int) ∧ Hid (Q3 wx V.heap.size u12 u13 vp q2 r2 (prK L ids k2 ++ prI L ids k2 m2 ii ⟨a0, a1, a2, a3⟩)) ∧ Hid (vp.ownBlock ≠ some bx) ∧ Below V.heap.size V wx ∧ blk wx bx #[.int .i64 a0, .int .i64 a1, .int .i64 a2, .int .i64 a3] 26) (fun _ j _ => N - (intOf j).toNat)
            case atStart => exact ⟨k2 + 1, Nat.le_refl _, by omega, by go_num, (by show Q3 _ _ _ _ _ _ _ _; simp only [prI, List.drop_take_self, pick, List.filterMap_nil, List.filter_nil, List.map_nil, List.append_nil]; exact Q3.below hQU.out bBel), hne14, bBel, blk_below bBel kxU⟩
            case round =>
              clear hQU hbVU kxU hszU hbxU hne14
              obtain ⟨m2, hm1, hm2N, rfl, hQ, hne, hbX, kx⟩ := hrel
              have hszX := hbX.size
              have hbxX := blk_lt kx
              by_cases hmN : m2 < N
              · have hmNi : (m2 : Int) < (N : Int) := by omega
                have hml : m2 < ids.length := by have := hN.out; omega
                obtain ⟨g2, -, j2, c2⟩ := i1 m2 hml
                obtain ⟨og2, d2⟩ := c2 wr hbX
                have hik2 : i64k ids[m2] := hi64.out _ (List.getElem_mem hml)
                have cB := fun w' h => bounds_b W.heap.size L S ids[m2] hik2 w' h
                rcases hlk : look L ids[m2] with _ | y
                · have hpi : Hid (prI L ids k2 (m2 + 1) ii ⟨a0, a1, a2, a3⟩ = prI L ids k2 m2 ii ⟨a0, a1, a2, a3⟩) := prI_no hml hm1 (.inl hlk)
                  simp only [hlk, Option.getD_none, Option.isSome_none, Bx.zero] at cB
                  generalize ids[m2] = jj at *
                  clear hlk hik2
                  go_wp2_with (go_at_call 14; refine Calls.mono (gw_at (cB _ (hT.below bBel))) ?_; rintro e w1 ⟨rfl, qB, rfl⟩)
                  refine ⟨⟨m2 + 1, by omega, by omega, by go_num, (by show Q3 _ _ _ _ _ _ _ _; rw [hpi.out]; exact Q3.below hQ.out bBel), hne, bBel, blk_below bBel kx⟩, by (try go_num); simp [intOf]; (try omega)⟩
                · obtain ⟨b0, b1, b2, b3⟩ := y
                  obtain ⟨D, hD⟩ : ∃ D, Bx.ovl ⟨a0, a1, a2, a3⟩ ⟨b0, b1, b2, b3⟩ = D := ⟨_, rfl⟩
                  have hpi : Hid (prI L ids k2 (m2 + 1) ii ⟨a0, a1, a2, a3⟩ = prI L ids k2 m2 ii ⟨a0, a1, a2, a3⟩ ++ if D then [(ii, ids[m2])] else []) := by
                    show _ = _
                    cases D
                    · simp only [Bool.false_eq_true, if_false, List.append_nil]; exact prI_no hml hm1 (.inr ⟨_, hlk, hD⟩)
                    · simp only [if_true]; exact prI_yes hml hm1 hlk hD
                  have cO := fun w' => xovl_b a0 a1 a2 a3 b0 b1 b2 b3 w'
                  rw [show ovl8 a0 a1 a2 a3 b0 b1 b2 b3 = D from hD] at cO
                  have hpl : (prI L ids k2 m2 ii ⟨a0, a1, a2, a3⟩).length ≤ 100 := by
                    unfold prI
                    rw [List.length_map]
                    refine Nat.le_trans (List.length_filter_le _ _) (Nat.le_trans (List.length_filterMap_le _ _) ?_)
                    simp; omega
                  simp only [hlk, Option.getD_some, Option.isSome_some] at cB
                  generalize ids[m2] = jj at *
                  clear hlk hik2 hD
                  go_upto_region 27 with (go_at_call 14; refine Calls.mono (gw_at (cB _ (hT.below bBel))) ?_; rintro e w1 ⟨rfl, qB, rfl⟩)
                  refine wp_named ?_
                  intro Y hY
                  have ky : blk Y (wr.heap.size + qB.os.size) #[.int .i64 b0, .int .i64 b1, .int .i64 b2, .int .i64 b3] 26 := by rw [hY]; exact bBkn
                  have hbY : Below wr.heap.size wr Y := by rw [hY]; exact bBel
                  clear hY cB
                  have kxY := blk_below hbY kx
                  have hQY : Hid (Q3 Y V.heap.size u12 u13 u14 q2 r2 (prK L ids k2 ++ prI L ids k2 m2 ii ⟨a0, a1, a2, a3⟩)) := Q3.below hQ.out hbY
                  have hbVY : Below V.heap.size V Y := hbX.trans (hbY.mono hszX)
                  generalize wr.heap.size + qB.os.size = by_ at *
                  have hszY := hbVY.size
                  clear d2 og2 hbY kx hQ hbX
                  have okxY := blk_older kxY
                  have ckxY_0 : _ = some _ := blk_cell kxY 0
                  have ckxY_1 : _ = some _ := blk_cell kxY 1
                  have ckxY_2 : _ = some _ := blk_cell kxY 2
                  have ckxY_3 : _ = some _ := blk_cell kxY 3
                  have fkxY_0 := blk_free kxY 0
                  have fkxY_1 := blk_free kxY 1
                  have fkxY_2 := blk_free kxY 2
                  have fkxY_3 := blk_free kxY 3
                  have oky := blk_older ky
                  have cky_0 : _ = some _ := blk_cell ky 0
                  have cky_1 : _ = some _ := blk_cell ky 1
                  have cky_2 : _ = some _ := blk_cell ky 2
                  have cky_3 : _ = some _ := blk_cell ky 3
                  have fky_0 := blk_free ky 0
                  have fky_1 := blk_free ky 1
                  have fky_2 := blk_free ky 2
                  have fky_3 := blk_free ky 3
                  cases D
                  · go_wp2_with (go_at_call 15; refine Calls.mono (gw_at (cO _)) ?_; rintro e w1 ⟨rfl, qO, rfl⟩)
                    refine ⟨⟨m2 + 1, by omega, by omega, by go_num, (by show Q3 _ _ _ _ _ _ _ _; rw [hpi.out]; simp only [Bool.false_eq_true, if_false, List.append_nil]; exact Q3.below hQY.out bBel), hne, bBel, blk_below bBel kxY⟩, by (try go_num); simp [intOf]; (try omega)⟩
                  · go_upto_region 28 with (go_at_call 15; refine Calls.mono (gw_at (cO _)) ?_; rintro e w1 ⟨rfl, qO, rfl⟩)
                    have hpk : (prK L ids k2).length ≤ 300000 := by
                      have h1 := prK_len L ids k2
                      have h2 : k2 * L.length ≤ 60 * 4096 := Nat.mul_le_mul (by omega) hLl
                      omega
                    have hQ2 : Hid (Q3 (gw Y qO) V.heap.size u12 u13 u14 q2 r2 (prK L ids k2 ++ prI L ids k2 m2 ii ⟨a0, a1, a2, a3⟩)) := Q3.below hQY.out (below_gw Y qO)
                    have kx2 := blk_below (below_gw Y qO) kxY
                    have hbV2 : Below V.heap.size V (gw Y qO) := hbVY.trans ((below_gw Y qO).mono hszY)
                    obtain ⟨o5, f5⟩ := c1 (gw Y qO) hbV2
                    obtain ⟨o6, f6⟩ := c2 (gw Y qO) hbV2
                    clear c1 c2 i1 hQY hbVY kxY ky hszY
                    generalize gw Y qO = Y2 at *
                    have hszV2 := hbV2.size
                    have hbx2 := blk_lt kx2
                    have hown := hQ2.out.2.2.1
                    have hlen : (prK L ids k2 ++ prI L ids k2 m2 ii ⟨a0, a1, a2, a3⟩).length ≤ 400000 := by rw [List.length_append]; omega
                    go_wp2_with fail
                    refine wp_mix 11 [0, 0, 0, 6, 14, 0, 0, 96, 224, 510, 1022] [] [0, 1, 2, 3, 4, 5, 6, 7, 8, 9, 10] (by kernel_rfl) (by kernel_rfl) ?_
                    repeat (first | (refine mix_skip (by rfl) (by rfl) (by rfl) (by rfl) ?_) | (refine mix_early (by rfl) (by rfl) (by rfl) ?_; go_big_quiet_step (fail); with_reducible refine wpQuiet_nil ?_) | (refine mix_late (by rfl) (by rfl) (by rfl) ?_; go_big_quiet_step (fail); with_reducible refine wpQuiet_nil ?_) | (refine mix_call (by rfl) (by rfl) (by rfl) ?_; intro pM Qs hQs; go_wp2_with fail; refine hQs _ _ bBel ?_))
                    refine mix_make #[.int .i64 ii, .int .i64 jj] 41 (some 1) (by rfl) (by rfl) (by rfl) (by rfl) (fun w => by simp [go_sem, mval]) ?_
                    intro b5 wb hbb kb5 hS5
                    obtain ⟨qb5, rfl⟩ := gw_of_below hbb
                    clear hbb hS5
                    simp only [mval]
                    refine mix_end ?_
                    intro pE
                    simp only [List.drop_succ_cons, List.drop_zero]
                    go_wp2_with (at_builtin; refine wpList_app20 rfl _ _ 36 rfl V.heap.size 41 j0 (.agg #[.int .i64 0, .int .i64 0]) 16 (by kernel_rfl) hj hy0 hy1 hy2 rfl _ _ _ rfl (owns_below hown bBel) _ (.int .i64 ii) (.int .i64 jj) 41 rfl (by show blk _ _ #[.int .i64 ii, .int .i64 jj] _; exact (by apply blk_of; (repeat (first | with_reducible exact kb5 | with_reducible apply blk_drew | with_reducible apply blk_gw | with_reducible apply blk_alloc | with_reducible apply blk_set | ((with_reducible apply blk_other); focus omega))); (first | rfl | simp))) rfl rfl (by unfold maxLen; omega) (by omega) (by first | (simp; omega) | omega) ?_; intro v' w2 hown2 hb2 hg2 ho2)
                    refine ⟨⟨m2 + 1, by omega, by omega, by go_num, (by show Q3 _ _ _ _ _ _ _ _; rw [hpi.out]; simp only [if_true]; rw [← List.append_assoc]; exact Q3.addp (Q3.below hQ2.out bBel) hown2 hg2 ho2), ?_, Below.trans bBel hb2, blk_grown20 hg2 (blk_below bBel kx2) hne.out⟩, by (try go_num); simp [intOf]; (try omega)⟩
                    show v'.ownBlock ≠ some bx
                    rcases ho2 with e | e
                    · rw [e]; exact hne.out
                    · rw [e]; simp; omega
              · obtain rfl : m2 = N := by omega
                have hpk1 : Hid (prK L ids k2 ++ prI L ids k2 m2 ii ⟨a0, a1, a2, a3⟩ = prK L ids (k2 + 1)) := by
                  show _ = _
                  rw [← hN.out, hpa.out]
                  unfold prK
                  rw [hps.out, List.flatMap_append]; simp
                have hml1 : Hid (m + 1 = (pick L (ids.take (k2 + 1))).length) := by
                  show _ = _
                  rw [hps.out, List.length_append, hm2.out]; rfl
                rw [hpk1.out] at hQ
                go_wp2_with fail
                refine ⟨⟨k2 + 1, by omega, by go_num, ⟨m + 1, by go_num, by omega, hml1⟩, (by rw [hq1e.out, hq2e.out]; exact hQ), bBel⟩, by (try go_num); simp [intOf]; (try omega)⟩
        · obtain rfl : k2 = N := by omega
          have hall : pick L (ids.take k2) = L := by rw [← hN.out, List.take_length]; exact pick_all hsrt.out hP.out hm.out
          have hprl : prK L ids k2 = prL L := by unfold prK; rw [hall]; rfl
          have hmL : m = L.length := by have := hm2.out; rw [hall] at this; exact this
          rw [hall, hprl] at hQ
          subst hmL
          have kbR := blk_below hbR kbV
          have kfR := blk_below hbR kfV
          have ktR := blk_below hbR ktV
          have hTR := hT.below hbR
          have hbwR : Below w.heap.size w wr := hbV.trans (hbR.mono hbV.size)
          have hszwR := hbwR.size
          clear hall hprl hm2 i1 kbV kfV ktV hT hbR hbV hrow hm hP hi64 hsrt hN
          have cN : ∀ w S, TreeAt w W.heap.size L S → Calls Try.prog 17 #[.pointer (some ⟨W.heap.size, 0, none⟩)] w fun e w' => e = .returned (.int .i64 (L.length : Int)) ∧ Below w.heap.size w w' := fun w S h => len_b _ L S w h
          have cQ : ∀ w S, TreeAt w W.heap.size L S → Calls Try.prog 19 #[.pointer (some ⟨W.heap.size, 0, none⟩), .agg #[.int .i64 x0, .int .i64 y0, .int .i64 x1, .int .i64 y1]] w fun e w' => (∃ v, e = .returned v ∧ w'.ownsRow w.heap.size 3 1 v (hitL L (fun b => Bx.ovl b ⟨x0, y0, x1, y1⟩)).length (iv (hitL L (fun b => Bx.ovl b ⟨x0, y0, x1, y1⟩)))) ∧ Below w.heap.size w w' := fun w S h => query_b _ L S x0 y0 x1 y1 w h
          have hQl : (hitL L (fun b => Bx.ovl b ⟨x0, y0, x1, y1⟩)).length ≤ 4096 := Nat.le_trans (hitL_len _ _) hLl
          have cY : ∀ w S, TreeAt w W.heap.size L S → Calls Try.prog 20 #[.pointer (some ⟨W.heap.size, 0, none⟩), .agg #[.int .i64 fx, .int .i64 fy], .agg #[.int .i64 tx, .int .i64 ty]] w fun e w' => (∃ v, e = .returned v ∧ w'.ownsRow w.heap.size 3 1 v (hitL L (fun b => Bx.seg b fx fy tx ty)).length (iv (hitL L (fun b => Bx.seg b fx fy tx ty)))) ∧ Below w.heap.size w w' := fun w S h => ray_b _ L S fx fy tx ty w h
          have hYl : (hitL L (fun b => Bx.seg b fx fy tx ty)).length ≤ 4096 := Nat.le_trans (hitL_len _ _) hLl
          have cP : ∀ w S, TreeAt w W.heap.size L S → Calls Try.prog 22 #[.pointer (some ⟨W.heap.size, 0, none⟩)] w fun e w' => (∃ v, e = .returned v ∧ w'.ownsRow w.heap.size 41 2 v (prL L).length (pv (prL L))) ∧ Below w.heap.size w w' := fun w S h => pairs_b _ L S w h
          have hPl : (prL L).length ≤ 1000000000 := by
            have h1 := prT_len L L.length
            rw [prT_all] at h1
            have h2 : L.length * L.length ≤ 4096 * 4096 := Nat.mul_le_mul hLl hLl
            omega
          generalize hitL L (fun b => Bx.ovl b ⟨x0, y0, x1, y1⟩) = Q at *
          generalize hitL L (fun b => Bx.seg b fx fy tx ty) = Y at *
          generalize prL L = PP at *
          generalize L.length = nL at *
          obtain ⟨hoq, hor, hop, -, -⟩ := hQ.out
          clear hQ
          have okbR := blk_older kbR
          have ckbR_0 : _ = some _ := blk_cell kbR 0
          have ckbR_1 : _ = some _ := blk_cell kbR 1
          have ckbR_2 : _ = some _ := blk_cell kbR 2
          have ckbR_3 : _ = some _ := blk_cell kbR 3
          have fkbR_0 := blk_free kbR 0
          have fkbR_1 := blk_free kbR 1
          have fkbR_2 := blk_free kbR 2
          have fkbR_3 := blk_free kbR 3
          have okfR := blk_older kfR
          have ckfR_0 : _ = some _ := blk_cell kfR 0
          have ckfR_1 : _ = some _ := blk_cell kfR 1
          have fkfR_0 := blk_free kfR 0
          have fkfR_1 := blk_free kfR 1
          have oktR := blk_older ktR
          have cktR_0 : _ = some _ := blk_cell ktR 0
          have cktR_1 : _ = some _ := blk_cell ktR 1
          have fktR_0 := blk_free ktR 0
          have fktR_1 := blk_free ktR 1
          go_wp2_with (first
            | (go_at_call 17; refine Calls.mono (gw_at (cN _ _ (hTR.below bBel))) ?_; rintro e w1 ⟨rfl, qn, rfl⟩)
            | (go_at_call 19; refine Calls.mono (gw_ex (cQ _ _ (hTR.below bBel))) ?_; rintro e w1 ⟨⟨v1, rfl, ho1⟩, q1, rfl⟩)
            | (go_at_call 20; refine Calls.mono (gw_ex (cY _ _ (hTR.below bBel))) ?_; rintro e w1 ⟨⟨v2, rfl, ho2⟩, q2, rfl⟩)
            | (go_at_call 22; refine Calls.mono (gw_ex (cP _ _ (hTR.below bBel))) ?_; rintro e w1 ⟨⟨v3, rfl, ho3⟩, q3, rfl⟩)
            | (go_at_call 18; (with_reducible show Calls _ _ #[_, u12] _ _); refine Calls.mono (gw_at (eqints_b _ _ _ _ Q Q _ (owns_below ho1 bBel) (owns_below hoq bBel) true (by simp) (by omega))) ?_; rintro e w1 ⟨rfl, qe, rfl⟩)
            | (go_at_call 18; (with_reducible show Calls _ _ #[_, u13] _ _); refine Calls.mono (gw_at (eqints_b _ _ _ _ Y Y _ (owns_below ho2 bBel) (owns_below hor bBel) true (by simp) (by omega))) ?_; rintro e w1 ⟨rfl, qg, rfl⟩)
            | (go_at_call 21; refine Calls.mono (gw_at (eqpairs_b _ _ _ _ PP PP _ (owns_below ho3 bBel) (owns_below hop bBel) true (by simp) (by omega))) ?_; rintro e w1 ⟨rfl, qf, rfl⟩)
            | (go_at_call 10; refine Calls.mono (gw_at (cE _)) ?_; rintro e w1 ⟨rfl, qE, rfl⟩))
          go_ret
          exact ⟨rfl, bBel⟩

theorem walk_BVHQueries (A : Option Addr) (cap : Nat) (l : List Opr) (x0 y0 x1 y1 fx fy tx ty : Int) (w : World) (ha : Oprs w A l) : Calls Try.prog 3 #[.slice A l.length cap, .agg #[.int .i64 x0, .int .i64 y0, .int .i64 x1, .int .i64 y1], .agg #[.int .i64 fx, .int .i64 fy], .agg #[.int .i64 tx, .int .i64 ty]] w fun e w' => e = .returned (.bool true) ∧ Below w.heap.size w w' := by
  by_cases h : l.length ≤ 60
  · exact query_main A cap l x0 y0 x1 y1 fx fy tx ty w ha h
  · exact query_long A cap l x0 y0 x1 y1 fx fy tx ty w (by omega)

end Go.Proofs.Ytdldlcibjjccpaa
