/- Chapter 20: contracts of copyOf, Clone. -/
import Derived.Test.YtdldlcibjjccpaaBvP
import Derived.Test.YtdldlcibjjccpaaBvT
import Derived.Deep.DeepCutAuto
import Derived.Deep.RegionHeld3
set_option linter.unusedVariables false
set_option linter.unusedSimpArgs false
namespace Go.Proofs.Ytdldlcibjjccpaa
open Go.RowKit Fx

/-- The same tree in other blocks. -/
def Same : Tr → Tr → Prop
  | .leaf _ i x, .leaf _ j y => i = j ∧ x = y
  | .node _ a b, .node _ c d => Same a c ∧ Same b d
  | _, _ => False
theorem Same.all : ∀ {T U : Tr}, Same T U → U.lv.map (·.2) = T.lv.map (·.2) ∧ U.ht = T.ht ∧ U.box = T.box ∧ (T.bal → U.bal)
  | .leaf _ i x, .leaf _ j y, ⟨h1, h2⟩ => by subst h1 h2; exact ⟨rfl, rfl, rfl, fun _ => trivial⟩
  | .node _ a b, .node _ c d, ⟨h1, h2⟩ => by
    obtain ⟨p1, p2, p3, p4⟩ := h1.all
    obtain ⟨q1, q2, q3, q4⟩ := h2.all
    refine ⟨by simp only [Tr.lv, List.map_append, p1, q1], by simp only [Tr.ht, p2, q2], by simp only [Tr.box, p3, q3], fun ⟨a1, a2, a3, a4⟩ => ⟨p4 a1, q4 a2, by omega, by omega⟩⟩
  | .leaf _ _ _, .node _ _ _, h => h.elim
  | .node _ _ _, .leaf _ _ _, h => h.elim

/-- What copyOf leaves behind: a copy of T whose leaves stand in the map bm beside what was there. -/
def CopyPost (bm : Nat) (T : Tr) (F2 : Int → Option Nat) (n : Nat) (w w' : World) (r : Nat) : Prop :=
  ∃ (U : Tr) (M' : Nat → Nd) (F3 : Int → Option Nat), U.b = r ∧ Rep w' M' (fun k => k ∈ U.bs) ∧ Lay M' U ∧ (M' U.b).p = none ∧ U.bs.Nodup ∧ (∀ b ∈ U.bs, w.heap.size ≤ b) ∧ Same T U ∧ MapAt w' (some bm) F3 (n + T.lv.length) ∧ (∀ i c, F3 i = some c ↔ F2 i = some c ∨ ∃ x, (c, i, x) ∈ U.lv) ∧ But (fun k => k = bm) w w'
theorem CopyPost.early {bm : Nat} {T : Tr} {F2 : Int → Option Nat} {n : Nat} {w X w' : World} {r : Nat} (h : CopyPost bm T F2 n X w' r) (hb : Below w.heap.size w X) : CopyPost bm T F2 n w w' r := by
  obtain ⟨U, M', F3, h1, h2, h3, h4, h5, h6, h7, h8, h9, h10⟩ := h
  exact ⟨U, M', F3, h1, h2, h3, h4, h5, fun b hb' => Nat.le_trans hb.size (h6 b hb'), h7, h8, h9, (But.ofBelow hb _).trans h10 fun _ _ h => h⟩

theorem newleaf_h (i x0 y0 x1 y1 : Int) (w : World) : Calls Try.prog 48 #[.int .i64 i, .agg #[.int .i64 x0, .int .i64 y0, .int .i64 x1, .int .i64 y1]] w fun e w' => ∃ F, e = .returned (.pointer (some ⟨F, 0, none⟩)) ∧ w.heap.size ≤ F ∧ Hid (blk w' F (ndc ⟨i, ⟨x0, y0, x1, y1⟩, 1, none, none, none⟩) 72) ∧ ∃ q, w' = gw w q :=
  (newleaf_b i x0 y0 x1 y1 w).mono fun e w' ⟨h1, h2, h3⟩ => ⟨_, h1, by omega, h2, gw_of_below h3⟩

theorem lv_ids_nodup {T U : Tr} (h : Same T U) (hn : (T.lv.map (·.2.1)).Nodup) : (U.lv.map (·.2.1)).Nodup := by
  have := congrArg (List.map (·.1)) h.all.1
  rw [List.map_map, List.map_map] at this
  have e : U.lv.map (·.2.1) = T.lv.map (·.2.1) := this
  rw [e]; exact hn

set_option maxRecDepth 100000 in
set_option maxHeartbeats 8000000 in
theorem copyOf_b (ct bm : Nat) (rootv : Value) (M : Nat → Nd) (N : Nat → Prop) (nb : ¬ N bm) (nc : ct ≠ bm) (T : Tr) : Lay M T → (∀ c ∈ T.bs, N c) → (T.lv.map (·.2.1)).Nodup → (∀ e ∈ T.lv, i64k e.2.1) → T.lv.length ≤ 100000 → ∀ (w : World) (F2 : Int → Option Nat) (n : Nat), Rep w M N → blk w ct #[rootv, .map (some bm)] 67 → MapAt w (some bm) F2 n → (∀ e ∈ T.lv, F2 e.2.1 = none) → n + T.lv.length ≤ 100000 →
    Calls Try.prog 51 #[.pointer (some ⟨ct, 0, none⟩), .pointer (some ⟨T.b, 0, none⟩)] w fun e w' => ∃ r, e = .returned (.pointer (some ⟨r, 0, none⟩)) ∧ CopyPost bm T F2 n w w' r := by
  induction T with
  | leaf b i x =>
    intro hL hS hnd hi64 hlen w F2 n hR kt hm hF hn
    have kn := hR b (hS _ (by simp [Tr.bs]))
    obtain ⟨e1, e2, e3⟩ := hL
    have c1 := fun w' (h : Below w.heap.size w w') => isleaf_b b (M b) w' (blk_below h kn) true (by rw [e3]; rfl)
    obtain ⟨Q, hQ⟩ : ∃ Q, M b = Q := ⟨_, rfl⟩
    rw [hQ] at kn e1 e2
    clear hQ e3
    have hFi : F2 i = none := hF (b, i, x) (by simp [Tr.lv])
    have hii : i64k i := hi64 (b, i, x) (by simp [Tr.lv])
    simp only [Tr.lv, List.length_singleton] at hn
    obtain ⟨iQ, ⟨x0Q, y0Q, x1Q, y1Q⟩, hQ', pQ, lQ, rQ⟩ := Q
    dsimp only at e1 e2
    subst e1 e2
    simp only [ndc] at kn
    generalize nptr pQ = PQ at *
    generalize nptr lQ = LQ at *
    generalize nptr rQ = RQ at *
    simp only [Tr.b]
    clear hR hS hnd hi64 hF
    have hbl := mapat_lt hm
    have hcellB : ∀ w', Below w.heap.size w w' → Below w.heap.size w w' ∧ w'.cell? ⟨b, 0, none⟩ = some (.int .i64 iQ) ∧ w'.cell? ⟨b, 1, none⟩ = some (.int .i64 x0Q) ∧ w'.cell? ⟨b, 2, none⟩ = some (.int .i64 y0Q) ∧ w'.cell? ⟨b, 3, none⟩ = some (.int .i64 x1Q) ∧ w'.cell? ⟨b, 4, none⟩ = some (.int .i64 y1Q) := fun w' h => ⟨h, blk_cell (blk_below h kn) 0, blk_cell (blk_below h kn) 1, blk_cell (blk_below h kn) 2, blk_cell (blk_below h kn) 3, blk_cell (blk_below h kn) 4⟩
    have okn := blk_older kn
    have ckn_0 : _ = some _ := blk_cell kn 0
    have ckn_1 : _ = some _ := blk_cell kn 1
    have ckn_2 : _ = some _ := blk_cell kn 2
    have ckn_3 : _ = some _ := blk_cell kn 3
    have ckn_4 : _ = some _ := blk_cell kn 4
    have ckn_5 : _ = some _ := blk_cell kn 5
    have ckn_6 : _ = some _ := blk_cell kn 6
    have ckn_7 : _ = some _ := blk_cell kn 7
    have ckn_8 : _ = some _ := blk_cell kn 8
    have fkn_0 := blk_free kn 0
    have fkn_1 := blk_free kn 1
    have fkn_2 := blk_free kn 2
    have fkn_3 := blk_free kn 3
    have fkn_4 := blk_free kn 4
    have fkn_5 := blk_free kn 5
    have fkn_6 := blk_free kn 6
    have fkn_7 := blk_free kn 7
    have fkn_8 := blk_free kn 8
    go_enter Try.func51, Try.ntmps51
    go_upto_region 2 with (go_at_call 66; with_reducible_and_instances refine Calls.mono (gw_at (c1 _ bBel)) ?_; rintro e w1 ⟨rfl, q, rfl⟩)
    refine wp_named ?_
    intro W hW
    have hbW : Below w.heap.size w W := by rw [hW]; exact bBel
    clear hW
    have hzW := hbW.size
    have hcellW : ∀ w', Below W.heap.size W w' → Below W.heap.size W w' ∧ w'.cell? ⟨b, 0, none⟩ = some (.int .i64 iQ) ∧ w'.cell? ⟨b, 1, none⟩ = some (.int .i64 x0Q) ∧ w'.cell? ⟨b, 2, none⟩ = some (.int .i64 y0Q) ∧ w'.cell? ⟨b, 3, none⟩ = some (.int .i64 x1Q) ∧ w'.cell? ⟨b, 4, none⟩ = some (.int .i64 y1Q) := fun w' h => ⟨h, (hcellB w' (Below.trans hbW (h.mono hzW))).2⟩
    go_cut [5] (fun lf wx => ∃ F : Nat, lf = .pointer (some ⟨F, 0, none⟩) ∧ W.heap.size ≤ F ∧ Hid (blk wx F (ndc ⟨iQ, ⟨x0Q, y0Q, x1Q, y1Q⟩, 1, none, none, none⟩) 72) ∧ Below W.heap.size W wx)
    case first =>
      obtain ⟨-, d0, d1, d2, d3, d4⟩ := hcellW W (Below.refl _ _)
      go_region_held3 (fun w' => Below W.heap.size W w' ∧ w'.cell? ⟨b, 0, none⟩ = some (.int .i64 iQ) ∧ w'.cell? ⟨b, 1, none⟩ = some (.int .i64 x0Q) ∧ w'.cell? ⟨b, 2, none⟩ = some (.int .i64 y0Q) ∧ w'.cell? ⟨b, 3, none⟩ = some (.int .i64 x1Q) ∧ w'.cell? ⟨b, 4, none⟩ = some (.int .i64 y1Q)) (first | (refine hcellW _ ?_; exact bBel)) ((go_at_call 48; with_reducible_and_instances refine Calls.mono (newleaf_h iQ x0Q y0Q x1Q y1Q _) ?_; rintro e w1 ⟨F, rfl, hF, kF, q9, rfl⟩))
      all_goals
        go_wp2_with fail
      all_goals
        go_meet
        exact ⟨_, rfl, by (try simp at hF); omega, kF, bBel⟩
    case rest =>
    obtain ⟨F, rfl, hFW, kF, hbX⟩ := hcut
    generalize wc = X at *
    have hzX := hbX.size
    have hbwX : Below w.heap.size w X := Below.trans hbW (hbX.mono hzW)
    have ktX := blk_below hbwX kt
    have knX := blk_below hbwX kn
    clear okn ckn_0 ckn_1 ckn_2 ckn_3 ckn_4 ckn_5 ckn_6 ckn_7 ckn_8 fkn_0 fkn_1 fkn_2 fkn_3 fkn_4 fkn_5 fkn_6 fkn_7 fkn_8 hcellB hcellW
    have mX := mapat_but hm (But.ofBelow hbwX fun _ => False) fun _ _ h => h
    obtain ⟨rv, hrv⟩ : ∃ rv, Hid (rootv = rv) := ⟨_, rfl⟩
    rw [hrv.out] at ktX
    have oktX := blk_older ktX
    have cktX_0 : _ = some _ := blk_cell ktX 0
    have cktX_1 : _ = some _ := blk_cell ktX 1
    have fktX_0 := blk_free ktX 0
    have fktX_1 := blk_free ktX 1
    have oknX := blk_older knX
    have cknX_0 : _ = some _ := blk_cell knX 0
    have cknX_1 : _ = some _ := blk_cell knX 1
    have cknX_2 : _ = some _ := blk_cell knX 2
    have cknX_3 : _ = some _ := blk_cell knX 3
    have cknX_4 : _ = some _ := blk_cell knX 4
    have cknX_5 : _ = some _ := blk_cell knX 5
    have cknX_6 : _ = some _ := blk_cell knX 6
    have cknX_7 : _ = some _ := blk_cell knX 7
    have cknX_8 : _ = some _ := blk_cell knX 8
    have fknX_0 := blk_free knX 0
    have fknX_1 := blk_free knX 1
    have fknX_2 := blk_free knX 2
    have fknX_3 := blk_free knX 3
    have fknX_4 := blk_free knX 4
    have fknX_5 := blk_free knX 5
    have fknX_6 := blk_free knX 6
    have fknX_7 := blk_free knX 7
    have fknX_8 := blk_free knX 8
    go_upto_region 3 with fail
    refine wp_region_gw_tail 9 (by kernel_rfl) (by kernel_rfl) ?_
    simp only [List.take_succ_cons, List.take_zero, List.drop_succ_cons, List.drop_zero]
    repeat (go_big_quiet_step (fail))
    refine wpQuiet_nil ?_
    intro w1 hw1
    obtain ⟨q, rfl⟩ := hw1
    have mX2 := mapat_but mX (But.ofBelow (below_gw X q) fun _ => False) fun _ _ h => h
    have kF2 := blk_below (below_gw X q) kF.out
    obtain ⟨X3, hput, m3, b3⟩ := mapat_put mX2 hii (by omega) hFi F
    have hFb : F ≠ bm := by omega
    have D : Hid (CopyPost bm (.leaf b iQ ⟨x0Q, y0Q, x1Q, y1Q⟩) F2 n w X3 F) := by
      refine ⟨.leaf F iQ ⟨x0Q, y0Q, x1Q, y1Q⟩, fun _ => ⟨iQ, ⟨x0Q, y0Q, x1Q, y1Q⟩, 1, none, none, none⟩, _, rfl, ?_, ⟨rfl, rfl, rfl⟩, rfl, by simp [Tr.bs], ?_, ⟨rfl, rfl⟩, by simpa [Tr.lv] using m3, ?_, ?_⟩
      · intro c hc
        simp only [Tr.bs, List.mem_singleton] at hc
        subst hc
        exact b3.blk kF2 hFb
      · intro c hc
        simp only [Tr.bs, List.mem_singleton] at hc
        omega
      · intro j c
        simp only [Tr.lv, List.mem_singleton, Prod.mk.injEq]
        by_cases hj : j = iQ
        · subst hj
          rw [if_pos rfl, hFi]
          simp; exact eq_comm
        · rw [if_neg hj]
          simp [hj]
      · exact ((But.ofBelow (Below.trans hbwX ((below_gw X q).mono (by omega))) (fun k => k = bm))).trans b3 fun _ _ h => h
    clear m3 b3 mX2 mX hm kF kF2 kt
    go_wp2_with fail
    go_ret
    exact ⟨_, rfl, D.out⟩
  | node b l r ihl ihr =>
    intro hL hS hnd hi64 hlen w F2 n hR kt hm hF hn
    have kn := hR b (hS _ (by simp [Tr.bs]))
    obtain ⟨e1, e2, e3, e4, e5, e6, e7, e8⟩ := hL
    have hlp := l.ht_pos
    have c1 := fun w' (h : Below w.heap.size w w') => isleaf_b b (M b) w' (blk_below h kn) false (by rw [e2]; simp; omega)
    have hnd2 := hnd
    simp only [Tr.lv, List.map_append, List.nodup_append] at hnd2
    obtain ⟨nd1, nd2, nd3⟩ := hnd2
    simp only [Tr.lv, List.length_append] at hn hlen
    have ihl2 := ihl e7 (fun c hc => hS c (by simp [Tr.bs, hc])) nd1 (fun e he => hi64 e (by simp [Tr.lv, he])) (by omega)
    have ihr2 := ihr e8 (fun c hc => hS c (by simp [Tr.bs, hc])) nd2 (fun e he => hi64 e (by simp [Tr.lv, he])) (by omega)
    have hFl : ∀ e ∈ l.lv, F2 e.2.1 = none := fun e he => hF e (by simp [Tr.lv, he])
    have hFr : ∀ e ∈ r.lv, F2 e.2.1 = none := fun e he => hF e (by simp [Tr.lv, he])
    clear ihl ihr e7 e8
    -- what the left copy leaves behind, in a world Y later than w in which only the fork is new
    have cL : ∀ Y, Below w.heap.size w Y → ∀ X, Below Y.heap.size Y X → Calls Try.prog 51 #[.pointer (some ⟨ct, 0, none⟩), .pointer (some ⟨l.b, 0, none⟩)] X fun e w1 => ∃ r1, e = .returned (.pointer (some ⟨r1, 0, none⟩)) ∧ Hid (CopyPost bm l F2 n Y w1 r1) ∧ But (fun k => k = bm) w w1 := by
      intro Y hY X hX
      have hwX : Below w.heap.size w X := Below.trans hY (hX.mono hY.size)
      refine (ihl2 X F2 n (hR.below hwX) (blk_below hwX kt) (mapat_but hm (But.ofBelow hwX fun _ => False) fun _ _ h => h) hFl (by omega)).mono ?_
      rintro e w1 ⟨r1, rfl, hP⟩
      have hP2 := hP.early hX
      exact ⟨r1, rfl, hP2, by
        obtain ⟨U, M', F3, h1, h2, h3, h4, h5, h6, h7, h8, h9, h10⟩ := hP2
        exact (But.ofBelow hY _).trans h10 fun _ _ h => h⟩
    have cR : ∀ Y, Below w.heap.size w Y → ∀ r1 w1, Hid (CopyPost bm l F2 n Y w1 r1) → ∀ X, Below w1.heap.size w1 X → Calls Try.prog 51 #[.pointer (some ⟨ct, 0, none⟩), .pointer (some ⟨r.b, 0, none⟩)] X fun e w2 => ∃ r2, e = .returned (.pointer (some ⟨r2, 0, none⟩)) ∧ Hid (∃ F3, (∃ (U : Tr) (M' : Nat → Nd), U.b = r1 ∧ Rep w1 M' (fun k => k ∈ U.bs) ∧ Lay M' U ∧ (M' U.b).p = none ∧ U.bs.Nodup ∧ (∀ b ∈ U.bs, Y.heap.size ≤ b ∧ b < w1.heap.size) ∧ Same l U ∧ (∀ i c, F3 i = some c ↔ F2 i = some c ∨ ∃ x, (c, i, x) ∈ U.lv)) ∧ But (fun k => k = bm) Y w1 ∧ CopyPost bm r F3 (n + l.lv.length) w1 w2 r2) ∧ But (fun k => k = bm) w w2 := by
      intro Y hY r1 w1 hP X hX
      obtain ⟨U, M', F3, h1, h2, h3, h4, h5, h6, h7, h8, h9, h10⟩ := hP.out
      have hB1 : But (fun k => k = bm) w w1 := (But.ofBelow hY _).trans h10 fun _ _ h => h
      have hBX : But (fun k => k = bm) w X := hB1.below hX
      have hRX := hR.but hBX (fun k hk e => nb (e ▸ hk))
      have hids := h7.all.1
      refine (ihr2 X F3 (n + l.lv.length) hRX (hBX.blk kt nc) (mapat_but h8 (But.ofBelow hX fun _ => False) fun _ _ h => h) ?_ (by omega)).mono ?_
      · intro e he
        cases hc : F3 e.2.1 with
        | none => rfl
        | some c =>
          rcases (h9 _ _).1 hc with h | ⟨x, h⟩
          · rw [hFr e he] at h; cases h
          · have hm1 : (e.2.1, x) ∈ l.lv.map (·.2) := by rw [← hids]; exact List.mem_map.2 ⟨_, h, rfl⟩
            obtain ⟨y, hy, hye⟩ := List.mem_map.1 hm1
            exact absurd (by rw [hye]) (nd3 y.2.1 (List.mem_map.2 ⟨y, hy, rfl⟩) e.2.1 (List.mem_map.2 ⟨e, he, rfl⟩))
      · rintro e w2 ⟨r2, rfl, hP2⟩
        have hP3 := hP2.early hX
        refine ⟨r2, rfl, ⟨F3, ⟨U, M', h1, h2, h3, h4, h5, fun b hb => ⟨h6 b hb, blk_lt (h2 b hb)⟩, h7, h9⟩, h10, hP3⟩, ?_⟩
        obtain ⟨V, M'', F4, g1, g2, g3, g4, g5, g6, g7, g8, g9, g10⟩ := hP3
        exact hB1.trans g10 fun _ _ h => h
    have cA : ∀ Y F, Below w.heap.size w Y → w.heap.size ≤ F → F < Y.heap.size → F ≠ bm → blk Y F #[.int .i64 0, .int .i64 0, .int .i64 0, .int .i64 0, .int .i64 0, .int .i64 0, .pointer none, .pointer none, .pointer none] 72 → ∀ r1 w1 r2 w2, Hid (∃ F3, (∃ (U : Tr) (M' : Nat → Nd), U.b = r1 ∧ Rep w1 M' (fun k => k ∈ U.bs) ∧ Lay M' U ∧ (M' U.b).p = none ∧ U.bs.Nodup ∧ (∀ b ∈ U.bs, Y.heap.size ≤ b ∧ b < w1.heap.size) ∧ Same l U ∧ (∀ i c, F3 i = some c ↔ F2 i = some c ∨ ∃ x, (c, i, x) ∈ U.lv)) ∧ But (fun k => k = bm) Y w1 ∧ CopyPost bm r F3 (n + l.lv.length) w1 w2 r2) → ∀ X, Below w2.heap.size w2 X →
        Calls Try.prog 64 #[.pointer (some ⟨F, 0, none⟩), .pointer (some ⟨r1, 0, none⟩), .pointer (some ⟨r2, 0, none⟩)] X fun e w3 => e = .returned (.tuple #[]) ∧ Hid (CopyPost bm (.node b l r) F2 n w w3 F) ∧ But (fun k => k = bm) w w3 := by
      intro Y F hY hFw hFY hFb kF r1 w1 r2 w2 hP X hX
      obtain ⟨F3, ⟨U, M1, h1, h2, h3, h4, h5, h6, h7, h9⟩, hB1, ⟨V, M2, F4, g1, g2, g3, g4, g5, g6, g7, g8, g9, g10⟩⟩ := hP.out
      subst h1 g1
      have hFU : F ∉ U.bs := fun h => by have := h6 F h; omega
      have hsz1 := hB1.size
      have hFV : F ∉ V.bs := fun h => by have := g6 F h; omega
      have hUV : ∀ c ∈ U.bs, ∀ d ∈ V.bs, c ≠ d := fun c hc d hd e => by have := h6 c hc; have := g6 d hd; omega
      have hbmU : ∀ c ∈ U.bs, c ≠ bm := fun c hc e => by have := h6 c hc; have := mapat_lt hm; have := hY.size; omega
      have hbmV : ∀ c ∈ V.bs, c ≠ bm := fun c hc e => by have := g6 c hc; have := mapat_lt hm; have := hY.size; omega
      have hRX : Rep X (fun c => if c = F then ⟨0, Bx.zero, 0, none, none, none⟩ else if c ∈ U.bs then M1 c else M2 c) (fun k => k = F ∨ k ∈ U.bs ∨ k ∈ V.bs) := by
        rintro c (rfl | hc | hc)
        · dsimp only; rw [if_pos rfl]
          exact blk_below hX (g10.blk (hB1.blk kF hFb) hFb)
        · dsimp only; rw [if_neg (by rintro rfl; exact hFU hc), if_pos hc]
          exact blk_below hX (g10.blk (h2 c hc) (hbmU c hc))
        · dsimp only; rw [if_neg (by rintro rfl; exact hFV hc), if_neg (fun h => hUV c h c hc rfl)]
          exact blk_below hX (g2 c hc)
      have eU : ∀ c ∈ U.bs, (fun c => if c = F then (⟨0, Bx.zero, 0, none, none, none⟩ : Nd) else if c ∈ U.bs then M1 c else M2 c) c = M1 c := fun c hc => by dsimp only; rw [if_neg (by rintro rfl; exact hFU hc), if_pos hc]
      have eV : ∀ c ∈ V.bs, (fun c => if c = F then (⟨0, Bx.zero, 0, none, none, none⟩ : Nd) else if c ∈ U.bs then M1 c else M2 c) c = M2 c := fun c hc => by dsimp only; rw [if_neg (by rintro rfl; exact hFV hc), if_neg (fun h => hUV c h c hc rfl)]
      have eF : (fun c => if c = F then (⟨0, Bx.zero, 0, none, none, none⟩ : Nd) else if c ∈ U.bs then M1 c else M2 c) F = ⟨0, Bx.zero, 0, none, none, none⟩ := by dsimp only; rw [if_pos rfl]
      generalize (fun c => if c = F then (⟨0, Bx.zero, 0, none, none, none⟩ : Nd) else if c ∈ U.bs then M1 c else M2 c) = MX at *
      have lU := h3.same h5 eU
      have lV := g3.same g5 eV
      have hndX : (F :: (U.bs ++ V.bs)).Nodup := by
        simp only [List.nodup_cons, List.mem_append, not_or, List.nodup_append]
        exact ⟨⟨hFU, hFV⟩, h5, g5, hUV⟩
      have hU1 := U.ht_lv
      have hV1 := V.ht_lv
      have hU2 := congrArg List.length h7.all.1
      have hV2 := congrArg List.length g7.all.1
      simp only [List.length_map] at hU2 hV2
      refine (adopt_r F U.b V.b MX _ X hRX (.inl rfl) (.inr (.inl U.b_mem)) (.inr (.inr V.b_mem)) (fun e => hFU (e ▸ U.b_mem)) (fun e => hFV (e ▸ V.b_mem)) (hUV _ U.b_mem _ V.b_mem) (by rw [lU.ht]; omega) (by rw [lV.ht]; omega)).mono ?_
      rintro e w3 ⟨rfl, hR3, hB3⟩
      have hwX : But (fun k => k = bm) w X := (((But.ofBelow hY _).trans hB1 fun _ _ h => h).trans g10 fun _ _ h => h).below hX
      have hw3 : But (fun k => k = bm) w w3 := hwX.trans hB3 (by
        rintro k hk (rfl | h | h)
        · omega
        · have := h6 k h; have := hY.size; omega
        · have := g6 k h; have := hY.size; omega)
      refine ⟨rfl, ⟨.node F U V, adM MX F U.b V.b, F4, rfl, fun c hc => hR3 c ?_, lU.ad lV hndX, ?_, hndX, ?_, ⟨h7, g7⟩, ?_, ?_, hw3⟩, hw3⟩
      · simp only [Tr.bs, List.mem_cons, List.mem_append] at hc; exact hc
      · show (adM MX F U.b V.b F).p = none
        simp [adM, eF]
      · intro c hc
        simp only [Tr.bs, List.mem_cons, List.mem_append] at hc
        have := hY.size
        rcases hc with rfl | h | h
        · exact hFw
        · have := h6 c h; omega
        · have := g6 c h; omega
      · have hm4 := mapat_but (mapat_but g8 (But.ofBelow hX fun _ => False) fun _ _ h => h) hB3 (fun b e => by
          cases e
          rintro (h | h | h)
          · exact hFb h.symm
          · exact hbmU _ h rfl
          · exact hbmV _ h rfl)
        simp only [Tr.lv, List.length_append]
        rw [← Nat.add_assoc]; exact hm4
      · intro j c
        rw [g9, h9]
        simp only [Tr.lv, List.mem_append]
        constructor
        · rintro ((h | ⟨x, h⟩) | ⟨x, h⟩)
          · exact .inl h
          · exact .inr ⟨x, .inl h⟩
          · exact .inr ⟨x, .inr h⟩
        · rintro (h | ⟨x, h | h⟩)
          · exact .inl (.inl h)
          · exact .inl (.inr ⟨x, h⟩)
          · exact .inr ⟨x, h⟩
    have hbl := mapat_lt hm
    have hbb : b ≠ bm := fun e => nb (e ▸ hS b (by simp [Tr.bs]))
    obtain ⟨Q, hQ⟩ : ∃ Q, M b = Q := ⟨_, rfl⟩
    rw [hQ] at kn e3 e4
    clear hQ e1 e2 e5 e6 ihl2 ihr2 hR hS hnd hi64 hm hF hFl hFr nd1 nd2 nd3 hlp
    obtain ⟨iQ, ⟨x0Q, y0Q, x1Q, y1Q⟩, hQ', pQ, lQ, rQ⟩ := Q
    dsimp only at e3 e4
    subst e3 e4
    simp only [ndc, nptr_some] at kn
    generalize nptr pQ = PQ at *
    obtain ⟨lb, hlb⟩ : ∃ lb, Hid (l.b = lb) := ⟨_, rfl⟩
    obtain ⟨rb, hrb⟩ : ∃ rb, Hid (r.b = rb) := ⟨_, rfl⟩
    rw [hlb.out, hrb.out] at kn
    simp only [hlb.out] at cL
    simp only [hrb.out] at cR
    simp only [Tr.b]
    have okn := blk_older kn
    have ckn_0 : _ = some _ := blk_cell kn 0
    have ckn_1 : _ = some _ := blk_cell kn 1
    have ckn_2 : _ = some _ := blk_cell kn 2
    have ckn_3 : _ = some _ := blk_cell kn 3
    have ckn_4 : _ = some _ := blk_cell kn 4
    have ckn_5 : _ = some _ := blk_cell kn 5
    have ckn_6 : _ = some _ := blk_cell kn 6
    have ckn_7 : _ = some _ := blk_cell kn 7
    have ckn_8 : _ = some _ := blk_cell kn 8
    have fkn_0 := blk_free kn 0
    have fkn_1 := blk_free kn 1
    have fkn_2 := blk_free kn 2
    have fkn_3 := blk_free kn 3
    have fkn_4 := blk_free kn 4
    have fkn_5 := blk_free kn 5
    have fkn_6 := blk_free kn 6
    have fkn_7 := blk_free kn 7
    have fkn_8 := blk_free kn 8
    go_enter Try.func51, Try.ntmps51
    go_upto_region 6 with (go_at_call 66; with_reducible_and_instances refine Calls.mono (gw_at (c1 _ bBel)) ?_; rintro e w1 ⟨rfl, q, rfl⟩)
    refine wp_named ?_
    intro Y hY
    have kF : blk Y (w.heap.size + q.os.size) #[.int .i64 0, .int .i64 0, .int .i64 0, .int .i64 0, .int .i64 0, .int .i64 0, .pointer none, .pointer none, .pointer none] 72 := by rw [hY]; exact bBkn
    have hbY : Below w.heap.size w Y := by rw [hY]; exact bBel
    have hFw : w.heap.size ≤ w.heap.size + q.os.size := by omega
    clear hY
    generalize w.heap.size + q.os.size = F at *
    have hFY := blk_lt kF
    have hzY := hbY.size
    have cL2 := cL Y hbY
    have cR2 := cR Y hbY
    have cA2 := cA Y F hbY hFw hFY (by omega) kF
    clear cL cR cA
    have hcellY : ∀ w', But (fun k => k = bm) w w' → But (fun k => k = bm) w w' ∧ w'.cell? ⟨b, 7, none⟩ = some (.pointer (some ⟨lb, 0, none⟩)) ∧ w'.cell? ⟨b, 8, none⟩ = some (.pointer (some ⟨rb, 0, none⟩)) := fun w' h => ⟨h, blk_cell (h.blk kn hbb) 7, blk_cell (h.blk kn hbb) 8⟩
    have hBY : But (fun k => k = bm) w Y := But.ofBelow hbY _
    clear okn ckn_0 ckn_1 ckn_2 ckn_3 ckn_4 ckn_5 ckn_6 ckn_7 ckn_8 fkn_0 fkn_1 fkn_2 fkn_3 fkn_4 fkn_5 fkn_6 fkn_7 fkn_8 c1
    obtain ⟨-, d0, d1⟩ := hcellY Y hBY
    go_cut [44] (fun _ wx => Hid (CopyPost bm (.node b l r) F2 n w wx F))
    case first =>
      go_region_held3 (fun w' => But (fun k => k = bm) w w' ∧ w'.cell? ⟨b, 7, none⟩ = some (.pointer (some ⟨lb, 0, none⟩)) ∧ w'.cell? ⟨b, 8, none⟩ = some (.pointer (some ⟨rb, 0, none⟩))) (first | (refine hcellY _ ?_; exact bBut)) (first | (go_at_call 51; with_reducible_and_instances refine Calls.mono (cL2 _ bBel) ?_; rintro e w1 ⟨r1, rfl, hP1, hB1⟩) | (go_at_call 51; with_reducible_and_instances refine Calls.mono (cR2 _ _ hP1 _ bBel) ?_; rintro e w2 ⟨r2, rfl, hP2, hB2⟩) | (go_at_call 64; with_reducible_and_instances refine Calls.mono (cA2 _ _ _ _ hP2 _ bBel) ?_; rintro e w3 ⟨rfl, hP3, hB3⟩))
      all_goals
        go_wp2_with fail
      all_goals
        go_meet
        exact hP3
    case rest =>
    have hP := hcut
    clear hcut d0 d1 hBY hcellY cL2 cR2 cA2
    go_wp2_with fail
    go_ret
    exact ⟨_, rfl, hP.out⟩

theorem new_h (w : World) : Calls Try.prog 11 #[] w fun e w' => e = .returned (.pointer (some ⟨w.heap.size, 0, none⟩)) ∧ Hid (blk w' w.heap.size #[.pointer none, .map none] 67) ∧ ∃ q, w' = gw w q :=
  (new_b w).mono fun e w' ⟨h1, h2, h3⟩ => ⟨h1, h2, gw_of_below h3⟩

set_option maxRecDepth 100000 in
set_option maxHeartbeats 8000000 in
theorem clone_b (a : Nat) (L : Bxs) (S : Nat → Prop) (w : World) (h : TreeAt w a L S) : Calls Try.prog 31 #[.pointer (some ⟨a, 0, none⟩)] w fun e w' => ∃ c S', e = .returned (.pointer (some ⟨c, 0, none⟩)) ∧ Hid (TreeAt w' c L S' ∧ (∀ k, S' k → w.heap.size ≤ k)) ∧ Below w.heap.size w w' := by
  obtain ⟨T, mb, F, M, N, kt, m2, m3, m4, m5, m6, m7, m8, m9, m10⟩ := h.mem
  have hlen := h.len
  have hN := h.lt
  cases T with
  | none =>
    have hL : L = [] := by simpa [olv] using m9.symm
    subst hL
    simp only [Option.map_none, nptr_none] at kt
    clear m2 m3 m4 m5 m6 m7 m8 m9 m10 h hlen hN
    have okt := blk_older kt
    have ckt_0 : _ = some _ := blk_cell kt 0
    have ckt_1 : _ = some _ := blk_cell kt 1
    have fkt_0 := blk_free kt 0
    have fkt_1 := blk_free kt 1
    go_enter Try.func31, Try.ntmps31
    go_wp2_with (go_at_call 11; with_reducible_and_instances refine Calls.mono (new_h _) ?_; rintro e w1 ⟨rfl, kc, q, rfl⟩)
    go_ret
    exact ⟨_, _, rfl, ⟨new_tree kc.out, fun k h => by omega⟩, bBel⟩
  | some T =>
    simp only [Option.map_some, nptr_some] at kt
    have hl := m9.length_eq
    simp only [olv, List.length_map] at hl
    have hlm : ∀ W, Below w.heap.size w W → ∀ ty, (Builtin.len_ #[65] ty #[.map mb]).run Try.prog W = .ok (.int .i64 (L.length : Int)) W := fun W hb ty => mapat_len (mapat_but m6 (But.ofBelow hb fun _ => False) fun _ _ h => h) ty
    have hmk : ∀ (k : Int) (W : World), (Instr.makeMap 65 (some (.int .i64 k))).run Try.prog W = .ok (.map (some W.heap.size)) (W.alloc (.map #[] 0)) := fun k W => by simp [Instr.makeMap, run_underlying umap, asInt, asIntOf]
    have hids : (T.lv.map (·.2.1)).Nodup := by
      have h1 := (m9.map (·.1)).nodup_iff.2 (srt_nodup h.srt)
      rw [List.map_map] at h1; exact h1
    have hik : ∀ e ∈ T.lv, i64k e.2.1 := fun e he => h.keys e.2 (m9.mem_iff.1 (List.mem_map.2 ⟨e, he, rfl⟩))
    obtain ⟨tb, htb⟩ : ∃ tb, Hid (T.b = tb) := ⟨_, rfl⟩
    rw [htb.out] at kt
    have okt := blk_older kt
    have ckt_0 : _ = some _ := blk_cell kt 0
    have ckt_1 : _ = some _ := blk_cell kt 1
    have fkt_0 := blk_free kt 0
    have fkt_1 := blk_free kt 1
    go_enter Try.func31, Try.ntmps31
    go_upto_region 5 with (go_at_call 11; with_reducible_and_instances refine Calls.mono (new_h _) ?_; rintro e w1 ⟨rfl, kc, q, rfl⟩)
    refine wp_named ?_
    intro Y hY
    have kcY : blk Y w.heap.size #[.pointer none, .map none] 67 := by rw [hY]; exact kc.out
    have hbY : Below w.heap.size w Y := by rw [hY]; exact bBel
    clear hY kc
    have ktY := blk_below hbY kt
    have hlY := hlm Y hbY
    have hta := blk_lt kt
    have hcY := blk_lt kcY
    clear okt ckt_0 ckt_1 fkt_0 fkt_1 hlm
    have oktY := blk_older ktY
    have cktY_0 : _ = some _ := blk_cell ktY 0
    have cktY_1 : _ = some _ := blk_cell ktY 1
    have fktY_0 := blk_free ktY 0
    have fktY_1 := blk_free ktY 1
    have okcY := blk_older kcY
    have ckcY_0 : _ = some _ := blk_cell kcY 0
    have ckcY_1 : _ = some _ := blk_cell kcY 1
    have fkcY_0 := blk_free kcY 0
    have fkcY_1 := blk_free kcY 1
    go_upto_region 6 with fail
    refine wp_named ?_
    intro Z hZ
    have kcZ : blk Z w.heap.size #[.pointer none, .map (some Y.heap.size)] 67 := by rw [hZ]; exact (by apply blk_of; (repeat (first | with_reducible exact kcY | with_reducible apply blk_drew | with_reducible apply blk_gw | with_reducible apply blk_alloc | with_reducible apply blk_set | ((with_reducible apply blk_other); focus omega))); (first | rfl | simp))
    have ktZ : blk Z a #[.pointer (some ⟨tb, 0, none⟩), .map mb] 67 := by rw [hZ]; exact (by apply blk_of; (repeat (first | with_reducible exact ktY | with_reducible apply blk_drew | with_reducible apply blk_gw | with_reducible apply blk_alloc | with_reducible apply blk_set | ((with_reducible apply blk_other); focus omega))); (first | rfl | simp))
    have hbZ : Below w.heap.size w Z := by rw [hZ]; exact bBel
    have nba : Y.heap.size ≠ w.heap.size := by omega
    have mZ : MapAt Z (some Y.heap.size) (fun _ => none) 0 := by
      rw [hZ]
      have hn := mapat_new (Y.setCell ⟨w.heap.size, 1, none⟩ (.map (some Y.heap.size)))
      rw [show (Y.setCell ⟨w.heap.size, 1, none⟩ (.map (some Y.heap.size))).heap.size = Y.heap.size from by simp [World.setCell]] at hn
      exact hn
    have hbm : w.heap.size ≤ Y.heap.size := by omega
    clear hZ hmk hlY
    clear ktY kcY oktY cktY_0 cktY_1 fktY_0 fktY_1 okcY ckcY_0 ckcY_1 fkcY_0 fkcY_1 hcY hbY
    generalize Y.heap.size = bm at *
    have hRZ := m2.below hbZ
    have cC := copyOf_b w.heap.size bm (.pointer none) M N (fun hk => by have := hN _ (m3 _ hk); omega) (Ne.symm nba) T m7.1 m8 hids hik (by omega) Z (fun _ => none) 0 hRZ kcZ mZ (fun _ _ => rfl) (by omega)
    rw [htb.out] at cC
    have cC2 : Calls Try.prog 51 #[.pointer (some ⟨w.heap.size, 0, none⟩), .pointer (some ⟨tb, 0, none⟩)] Z fun e w2 => ∃ r, e = .returned (.pointer (some ⟨r, 0, none⟩)) ∧ Hid (CopyPost bm T (fun _ => none) 0 Z w2 r) ∧ But (fun k => k = bm) Z w2 := cC.mono fun e w2 ⟨r, h1, h2⟩ => ⟨r, h1, h2, by obtain ⟨U, M', F3, g1, g2, g3, g4, g5, g6, g7, g8, g9, g10⟩ := h2; exact g10⟩
    clear cC
    have A : Hid (∀ w2 r, CopyPost bm T (fun _ => none) 0 Z w2 r → blk w2 w.heap.size #[.pointer none, .map (some bm)] 67 → ∃ S', TreeAt (w2.setCell ⟨w.heap.size, 0, none⟩ (.pointer (some ⟨r, 0, none⟩))) w.heap.size L S' ∧ (∀ k, S' k → w.heap.size ≤ k)) := by
      rintro w2 r ⟨U, M', F3, g1, g2, g3, g4, g5, g6, g7, g8, g9, g10⟩ kc
      subst g1
      obtain ⟨p1, p2, p3, p4⟩ := g7.all
      have hsz := hbZ.size
      have kc2 : blk (w2.setCell ⟨w.heap.size, 0, none⟩ (.pointer (some ⟨U.b, 0, none⟩))) w.heap.size #[.pointer (some ⟨U.b, 0, none⟩), .map (some bm)] 67 := blk_of (blk_set kc) (by rfl)
      have hcZ := blk_lt kcZ
      have hBs : But (fun k => k = w.heap.size) w2 (w2.setCell ⟨w.heap.size, 0, none⟩ (.pointer (some ⟨U.b, 0, none⟩))) := But.set (S := fun k => k = w.heap.size) (But.refl _ _) rfl _
      have hbm2 := mapat_lt g8
      have hbl : bm < Z.heap.size := mapat_lt mZ
      refine ⟨fun k => k = w.heap.size ∨ k = bm ∨ k ∈ U.bs, ⟨?_, .inl rfl, h.srt, h.keys, h.vals, h.len, some U, some bm, F3, M', fun k => k ∈ U.bs, kc2, g2.but hBs (fun k hk e => by have := g6 k hk; omega), fun k hk => .inr (.inr hk), fun hk => by have := g6 _ hk; omega, fun b e => by cases e; exact ⟨.inr (.inl rfl), fun hk => by have := g6 _ hk; omega, nba⟩, ?_, ⟨g3, g4, p4 m7.2.2.1, g5⟩, fun b hb => hb, ?_, ?_⟩, ?_⟩
      · rintro k (rfl | rfl | hk)
        · exact blk_lt kc2
        · have := hBs.size; omega
        · have := blk_lt (g2 k hk); have := hBs.size; omega
      · have := mapat_but g8 hBs (fun b e => by cases e; exact nba)
        rw [Nat.zero_add, hl] at this; exact this
      · simp only [olv]; rw [p1]; exact m9
      · intro i c
        rw [g9]; simp [olv]
      · rintro k (rfl | rfl | hk)
        · exact Nat.le_refl _
        · exact hbm
        · have := g6 k hk; omega
    clear m2 m3 m4 m5 m6 m7 m8 m9 m10 h hlen hN hl hids hik hRZ mZ kt
    have oktZ := blk_older ktZ
    have cktZ_0 : _ = some _ := blk_cell ktZ 0
    have cktZ_1 : _ = some _ := blk_cell ktZ 1
    have fktZ_0 := blk_free ktZ 0
    have fktZ_1 := blk_free ktZ 1
    have okcZ := blk_older kcZ
    have ckcZ_0 : _ = some _ := blk_cell kcZ 0
    have ckcZ_1 : _ = some _ := blk_cell kcZ 1
    have fkcZ_0 := blk_free kcZ 0
    have fkcZ_1 := blk_free kcZ 1
    go_wp2_with (go_at_call 51; with_reducible_and_instances refine Calls.mono cC2 ?_; rintro e w2 ⟨r, rfl, hP, hB2⟩; have kc2 := hB2.blk kcZ (Ne.symm nba); have okc2 := blk_older kc2; have ckc2_0 : _ = some _ := blk_cell kc2 0; have ckc2_1 : _ = some _ := blk_cell kc2 1; have fkc2_0 := blk_free kc2 0; have fkc2_1 := blk_free kc2 1)
    go_ret
    obtain ⟨S', h1, h2⟩ := A.out w2 r hP.out kc2
    refine ⟨_, S', rfl, ⟨h1, h2⟩, ?_⟩
    have hbb : Below w.heap.size Z w2 := ⟨hB2.os, hB2.tape, hB2.output, hB2.size, fun k hk => hB2.block k (by have := hbZ.size; omega) (by omega)⟩
    exact Below.setCell (Below.trans hbZ hbb) (Nat.le_refl _) _

end Go.Proofs.Ytdldlcibjjccpaa
