/- Chapter 20: contract of Pairs. -/
import Derived.Test.YtfhhkabdeajieaaBvW
import Derived.Test.YtfhhkabdeajieaaBvS
import Derived.Maps.AppendAt
import Derived.OwnWalk
import Derived.Deep.DeepCutAuto
set_option linter.unusedVariables false
set_option linter.unusedSimpArgs false
namespace Go.Proofs.Ytfhhkabdeajieaa
open Go.RowKit Fx

theorem blk_grown20 {w w' : World} {row : Option Nat} (hg : w.grownBy w' row) {k : Nat} {c : Array Value} {t : TypeId} (h : blk w k c t) (hne : row ≠ some k) : blk w' k c t :=
  (hg.block k (blk_lt h) (fun e => hne e.symm)).trans h
theorem wpList_app20 {P : Program} {w : World} {ops : Array Oper} {rest : List Oper} {o : Oper} {a : Act} {Q : Exit → Act → World → Prop} (hg : o.guard = none) (s x : Operand) (t : TypeId)
    (ho : o.op = .call { callee := .builtin .append, args := #[s, x], argTypes := #[t, t] })
    (B : Nat) (e : TypeId) (i : TypeInfo) (z : Value) (bytes : Nat) (ht : P.underlying t = some (.slice e)) (hi : P.info? e = some i) (hz : i.zero = some z) (hsize : i.size = 2) (hby : i.bytes = bytes) (hzs : z.cells.size = 2)
    (v : Value) (n : Nat) (xs : List Value) (hs : a.eval s = v) (hown : w.ownsRow B e 2 v n xs) (b : Nat) (y1 y2 : Value) (te : TypeId) (hx : a.eval x = .slice (some ⟨b, 0, none⟩) 1 1) (hy : blk w b #[y1, y2] te) (h1 : y1.oneCell' = true) (h2 : y2.oneCell' = true)
    (h63 : n + 1 ≤ maxLen) (hbytes : (n + 1) * bytes ≤ 140737488355328) (hB : B ≤ w.heap.size)
    (h : ∀ v' w', w'.ownsRow B e 2 v' (n + 1) (xs ++ [y1, y2]) → Below B w w' → w.grownBy w' v.ownBlock → (v'.ownBlock = v.ownBlock ∨ v'.ownBlock = some w.heap.size) → wpList P ops Q rest (a.put o.dst v') w') : wpList P ops Q (o :: rest) a w := by
  refine wpList_append_own_at w hg s x t ho B e i z 2 bytes ht hi hz hsize hby hzs (by decide) v n xs hs hown ⟨b, 0, none⟩ 1 1 [y1, y2] hx rfl (fun j u hj => ?_) (fun u hu => ?_) h63 hbytes hB (fun v' w' h2 h3 _ h5 => h v' w' h2 ?_ h3 h5)
  · match j, hj with
    | 0, hj => simp at hj; subst hj; simpa [Addr.add] using blk_cell hy 0
    | 1, hj => simp at hj; subst hj; simpa [Addr.add] using blk_cell hy 1
  · simp at hu; rcases hu with rfl | rfl <;> assumption
  · refine ⟨h3.os, h3.tape, h3.output, h3.size, fun k hk => h3.block k (by omega) fun hk' => ?_⟩
    obtain ⟨_, ⟨rfl, _⟩ | ⟨g, cap, cur, rfl, hBg, _⟩⟩ := hown
    · simp [Value.ownBlock] at hk'
    · simp [Value.ownBlock] at hk'; omega

/-- The pairs that a box is the first of. -/
def prs (L : Bxs) (e : Int × Bx) : List (Int × Int) := ((hitL L fun b => Bx.ovl b e.2).filter fun j => decide (e.1 < j)).map fun j => (e.1, j)
def prT (L : Bxs) (k : Nat) : List (Int × Int) := (L.take k).flatMap (prs L)
def prL (L : Bxs) : List (Int × Int) := L.flatMap (prs L)
theorem prT_succ {L : Bxs} {k : Nat} (h : k < L.length) : prT L (k + 1) = prT L k ++ prs L L[k] := by
  unfold prT
  rw [List.take_add_one, List.getElem?_eq_getElem h, List.flatMap_append]
  simp
theorem prT_all (L : Bxs) : prT L L.length = prL L := by unfold prT prL; rw [List.take_length]
def inn (i : Int) (hs : List Int) (m : Nat) : List (Int × Int) := ((hs.take m).filter fun j => decide (i < j)).map fun j => (i, j)
theorem inn_yes {i : Int} {hs : List Int} {m : Nat} (h : m < hs.length) (hi : i < hs[m]) : inn i hs (m + 1) = inn i hs m ++ [(i, hs[m])] := by
  unfold inn; rw [List.take_add_one, List.getElem?_eq_getElem h, List.filter_append, List.map_append]; simp [hi]
theorem inn_no {i : Int} {hs : List Int} {m : Nat} (h : m < hs.length) (hi : ¬ i < hs[m]) : inn i hs (m + 1) = inn i hs m := by
  unfold inn; rw [List.take_add_one, List.getElem?_eq_getElem h, List.filter_append, List.map_append]; simp [hi]
theorem inn_all (L : Bxs) (e : Int × Bx) : inn e.1 (hitL L fun b => Bx.ovl b e.2) (hitL L fun b => Bx.ovl b e.2).length = prs L e := by unfold inn prs; rw [List.take_length]
theorem inn_len (i : Int) (hs : List Int) (m : Nat) : (inn i hs m).length ≤ hs.length := by
  unfold inn; rw [List.length_map]
  exact Nat.le_trans (List.length_filter_le _ _) (by rw [List.length_take]; omega)
theorem prT_len (L : Bxs) : ∀ k, (prT L k).length ≤ k * L.length
  | 0 => by simp [prT]
  | k + 1 => by
    by_cases h : k < L.length
    · rw [prT_succ h, List.length_append, ← inn_all]
      have := prT_len L k
      have h2 := inn_len L[k].1 (hitL L fun b => Bx.ovl b L[k].2) (hitL L fun b => Bx.ovl b L[k].2).length
      have h3 := hitL_len L fun b => Bx.ovl b L[k].2
      rw [Nat.add_mul]; omega
    · have : prT L (k + 1) = prT L k := by unfold prT; rw [List.take_of_length_le (by omega), List.take_of_length_le (by omega)]
      rw [this]
      have := prT_len L k
      rw [Nat.add_mul]; omega
theorem ovl_self {x : Bx} (h : x.val = true) : x.ovl x = true := by
  obtain ⟨h1, h2, _⟩ := Bx.val_iff.1 h
  simp only [Bx.ovl, h, Bool.and_eq_true, decide_eq_true_eq, true_and]
  exact ⟨⟨⟨by omega, by omega⟩, by omega⟩, by omega⟩

theorem info_pair : (Try.prog.info? 44).map (fun i => (i.zero, i.size, i.bytes)) = some (some (.agg #[.int .i64 0, .int .i64 0]), 2, 16) := by kernel_rfl

theorem own_some {w : World} {B n : Nat} {e : TypeId} {v : Value} {ns : List Int} (h : w.ownsRow B e 1 v n (iv ns)) (hn : 0 < n) : ∃ g cap rest, v = .slice (some ⟨g, 0, none⟩) n cap ∧ B ≤ g ∧ blk w g (iv ns ++ rest).toArray e ∧ n ≤ cap := by
  obtain ⟨h1, ⟨_, h2⟩ | ⟨g, cap, rest, h2, h3, h4, h5⟩⟩ := owns_open h
  · omega
  · exact ⟨g, cap, rest, h2, h3, h5, h4⟩

theorem own_ne {w : World} {B n k g : Nat} {e : TypeId} {v : Value} {xs : List Value} (h : w.ownsRow B e k v n xs) (hg : w.heap.size ≤ g) : v.ownBlock ≠ some g := fun e => by have := (World.ownsRow.lt h _ e).2; omega
theorem own_hid {w : World} {B n k : Nat} {e : TypeId} {v : Value} {xs : List Value} (h : w.ownsRow B e k v n xs) : Hid (w.ownsRow B e k v n xs) := h
theorem pv_append20 : ∀ a b : List (Int × Int), pv (a ++ b) = pv a ++ pv b
  | [], _ => rfl
  | p :: a, b => by simp [pv, pv_append20 a b]

set_option maxRecDepth 100000 in
set_option maxHeartbeats 8000000 in
theorem pairs_b (a : Nat) (L : Bxs) (S : Nat → Prop) (w : World) (h : TreeAt w a L S) : Calls Try.prog 25 #[.pointer (some ⟨a, 0, none⟩)] w fun e w' => (∃ v, e = .returned v ∧ w'.ownsRow w.heap.size 44 2 v (prL L).length (pv (prL L))) ∧ Below w.heap.size w w' := by
  obtain ⟨T, mb, F, M, N, kt, m2, m3, m4, m5, m6, m7, m8, m9, m10⟩ := h.mem
  have hlen := h.len
  have hF : ∀ i, (F i).isSome = true ↔ i ∈ L.map (·.1) := fun i => by
    rcases h.find m7 m9 m10 i with ⟨e1, e2⟩ | ⟨c, x, e1, e2, _⟩
    · rw [e1]; simp; exact fun x hx => look_none.1 e2 _ hx rfl
    · rw [e1]; simp; exact ⟨x, (look_some h.srt).1 e2⟩
  have kt1 : blk (w.alloc (.cells #[.map mb] 76)) w.heap.size #[.map mb] 76 := blk_new _ _ _
  have hb1 : Below w.heap.size w (w.alloc (.cells #[.map mb] 76)) := (Below.refl _ w).alloc (Nat.le_refl _) _
  have cS := xsorted_b w.heap.size mb L F _ (blk_lt kt1) (blk_cell kt1 0) (mapat_but m6 (But.ofBelow hb1 fun _ => False) fun _ _ h => h) h.srt (by omega) hF
  have hsz1 : (w.alloc (.cells #[.map mb] 76)).heap.size = w.heap.size + 1 := by simp
  rw [hsz1] at cS
  clear kt1 hb1 hsz1
  obtain ⟨rt, hrt⟩ : ∃ rt, Hid (nptr (T.map Tr.b) = rt) := ⟨_, rfl⟩
  rw [hrt.out] at kt
  obtain ⟨ids, hids⟩ : ∃ ids, Hid (L.map (·.1) = ids) := ⟨_, rfl⟩
  rw [hids.out] at cS
  obtain ⟨n, hn⟩ : ∃ n, ids.length = n := ⟨_, rfl⟩
  have hnL : Hid (L.length = n) := by have := hids.out; show L.length = n; rw [← hn, ← this]; simp
  rw [hn] at cS
  have hn4 : n ≤ 4096 := by have := hnL.out; omega
  by_cases h0 : n = 0
  · subst h0
    have hL0 : L = [] := List.eq_nil_of_length_eq_zero hnL.out
    subst hL0
    clear m2 m3 m4 m5 m6 m7 m8 m9 m10 h hF hn4 hlen hnL hn
    show Calls _ _ _ _ fun e w' => (∃ v, e = .returned v ∧ w'.ownsRow w.heap.size 44 2 v 0 []) ∧ Below w.heap.size w w'
    have okt := blk_older kt
    have ckt_0 : _ = some _ := blk_cell kt 0
    have ckt_1 : _ = some _ := blk_cell kt 1
    have fkt_0 := blk_free kt 0
    have fkt_1 := blk_free kt 1
    go_enter Try.func25, Try.ntmps25
    go_wp2_with (first | (go_at_call 45; with_reducible_and_instances refine Calls.mono (xkeys_b mb _) ?_; rintro e w1 ⟨rfl, rfl⟩) | (go_at_call 44; with_reducible_and_instances refine Calls.mono cS ?_; rintro e w1 ⟨⟨v, rfl, ho⟩, hb1⟩; obtain ⟨A, cap, rfl, -, -, -, -⟩ := owns_sl ho; clear ho; have hbW : Below w.heap.size w w1 := Below.trans ((Below.refl _ w).alloc (Nat.le_refl _) _) (Below.mono hb1 (by omega))))
    go_loopw [3, 17] (fun p i wr => p = .slice none 0 0 ∧ i = .int .i64 0 ∧ Below w.heap.size w wr) (fun _ i _ => (intOf i).toNat)
    case atStart => exact ⟨rfl, rfl, hbW⟩
    case round =>
      obtain ⟨rfl, rfl, hbr⟩ := hrel
      go_wp2_with fail
      go_ret
      exact ⟨⟨_, rfl, World.ownsRow_nil _ _ _ _⟩, hbr⟩
  have hpos : 0 < n := by omega
  obtain ⟨i0, hi, hz0, hz1, hz2⟩ := info_parts info_pair
  have okt := blk_older kt
  have ckt_0 : _ = some _ := blk_cell kt 0
  have ckt_1 : _ = some _ := blk_cell kt 1
  have fkt_0 := blk_free kt 0
  have fkt_1 := blk_free kt 1
  go_enter Try.func25, Try.ntmps25
  go_wp2_with (first | (go_at_call 45; with_reducible_and_instances refine Calls.mono (xkeys_b mb _) ?_; rintro e w1 ⟨rfl, rfl⟩) | (go_at_call 44; with_reducible_and_instances refine Calls.mono cS ?_; rintro e W ⟨⟨v, rfl, ho⟩, hb1⟩; obtain ⟨g, cap, rest, rfl, hg, kg, hnc⟩ := own_some ho hpos; clear ho; have hbW : Below w.heap.size w W := Below.trans ((Below.refl _ w).alloc (Nat.le_refl _) _) (Below.mono hb1 (by omega)); clear hb1))
  have hszW := hbW.size
  have hgW := blk_lt kg
  have hTW := h.below hbW
  have hkeys : ∀ k (hk : k < n), ∃ i x c, Hid (L[k]'(by have := hnL.out; omega) = (i, x)) ∧ i64k i ∧ x.val = true ∧ F i = some c ∧ (M c).x = x ∧ N c := fun k hk => by
    have hk' : k < L.length := by have := hnL.out; omega
    obtain ⟨⟨i, x⟩, e⟩ : ∃ e, L[k] = e := ⟨_, rfl⟩
    have hm : (i, x) ∈ L := e ▸ List.getElem_mem hk'
    rcases h.find m7 m9 m10 i with ⟨e1, e2⟩ | ⟨c, y, e1, e2, e3, e4, e5, e6, e7⟩
    · exact absurd rfl (look_none.1 e2 _ hm)
    · have : y = x := by have := (look_some h.srt).2 hm; rw [e2] at this; injection this
      exact ⟨i, x, c, e, h.keys _ hm, h.vals _ hm, e1, by rw [e4, this], m8 c e7⟩
  have hcell : ∀ k (hk : k < n) (w' : World), Below W.heap.size W w' → ∀ i x, Hid (L[k]'(by have := hnL.out; omega) = (i, x)) → w'.cell? ⟨g, k, none⟩ = some (.int .i64 i) := fun k hk w' hb i x hx => by
    have := row_cell (blk_below hb kg) (i := k) (by omega)
    rw [this]
    have e : ids[k]'(by omega) = i := by have h1 := hids.out; subst h1; simp; have := hx.out; simp [this]
    rw [e]
  have mW := mapat_but m6 (But.ofBelow hbW fun _ => False) fun _ _ h => h
  have hRW := m2.below hbW
  have ktW := blk_below hbW kt
  have A : Hid (hnL = hnL) := rfl
  clear A okt ckt_0 ckt_1 fkt_0 fkt_1 kt m2 m3 m4 m5 m6 m7 m8 m9 m10 hF
  go_loopw [3, 17] (fun p i wr => ∃ k : Nat, k ≤ n ∧ i = .int .i64 (k : Int) ∧ wr.ownsRow W.heap.size 44 2 p (prT L k).length (pv (prT L k)) ∧ Below W.heap.size W wr) (fun _ i _ => n - (intOf i).toNat)
  case atStart => exact ⟨0, by omega, rfl, World.ownsRow_nil _ _ _ _, Below.refl _ _⟩
  case round =>
    obtain ⟨k, hk, rfl, hown, hbR⟩ := hrel
    have hszR := hbR.size
    by_cases hkn : k < n
    · obtain ⟨i, x, c, hLk, hi64, hxv, hFi, hMc, hNc⟩ := hkeys k hkn
      have hc0 := hcell k hkn wr hbR i x hLk
      have ktR := blk_below hbR ktW
      have hl := mapat_look (mapat_but mW (But.ofBelow hbR fun _ => False) fun _ _ h => h) hi64
      rw [hFi, nptr_some] at hl
      have kc := (hRW.below hbR) c hNc
      obtain ⟨Q, hQ⟩ : ∃ Q, M c = Q := ⟨_, rfl⟩
      rw [hQ] at kc hMc
      clear hQ
      obtain ⟨iQ, ⟨x0Q, y0Q, x1Q, y1Q⟩, hQ', pQ, lQ, rQ⟩ := Q
      dsimp only at hMc
      subst hMc
      simp only [ndc] at kc
      generalize nptr pQ = PQ at *
      generalize nptr lQ = LQ at *
      generalize nptr rQ = RQ at *
      have cQ := query_b a L S x0Q y0Q x1Q y1Q wr (hTW.below hbR)
      have hpT := prT_len L k
      have hkk : k * L.length ≤ 4096 * 4096 := Nat.mul_le_mul (by omega) hlen
      have hself : 0 < (hitL L fun b => Bx.ovl b ⟨x0Q, y0Q, x1Q, y1Q⟩).length := by
        have hk' : k < L.length := by have := hnL.out; omega
        have hm : (i, ⟨x0Q, y0Q, x1Q, y1Q⟩) ∈ L := hLk.out ▸ List.getElem_mem hk'
        have : i ∈ hitL L fun b => Bx.ovl b ⟨x0Q, y0Q, x1Q, y1Q⟩ := by
          unfold hitL
          exact List.mem_map.2 ⟨_, List.mem_filter.2 ⟨hm, ovl_self hxv⟩, rfl⟩
        exact List.length_pos_of_mem this
      have hlq := hitL_len L fun b => Bx.ovl b ⟨x0Q, y0Q, x1Q, y1Q⟩
      have hsucc : Hid (prT L (k + 1) = prT L k ++ inn i (hitL L fun b => Bx.ovl b ⟨x0Q, y0Q, x1Q, y1Q⟩) (hitL L fun b => Bx.ovl b ⟨x0Q, y0Q, x1Q, y1Q⟩).length) := by
        have hk' : k < L.length := by have := hnL.out; omega
        show _ = _
        rw [prT_succ hk', ← inn_all, hLk.out]
      generalize hitL L (fun b => Bx.ovl b ⟨x0Q, y0Q, x1Q, y1Q⟩) = hits at *
      have oktR := blk_older ktR
      have cktR_0 : _ = some _ := blk_cell ktR 0
      have cktR_1 : _ = some _ := blk_cell ktR 1
      have fktR_0 := blk_free ktR 0
      have fktR_1 := blk_free ktR 1
      have okc := blk_older kc
      have ckc_0 : _ = some _ := blk_cell kc 0
      have ckc_1 : _ = some _ := blk_cell kc 1
      have ckc_2 : _ = some _ := blk_cell kc 2
      have ckc_3 : _ = some _ := blk_cell kc 3
      have ckc_4 : _ = some _ := blk_cell kc 4
      have ckc_5 : _ = some _ := blk_cell kc 5
      have ckc_6 : _ = some _ := blk_cell kc 6
      have ckc_7 : _ = some _ := blk_cell kc 7
      have ckc_8 : _ = some _ := blk_cell kc 8
      have fkc_0 := blk_free kc 0
      have fkc_1 := blk_free kc 1
      have fkc_2 := blk_free kc 2
      have fkc_3 := blk_free kc 3
      have fkc_4 := blk_free kc 4
      have fkc_5 := blk_free kc 5
      have fkc_6 := blk_free kc 6
      have fkc_7 := blk_free kc 7
      have fkc_8 := blk_free kc 8
      go_wp2_with (go_at_call 46; with_reducible_and_instances refine Calls.mono cQ ?_; rintro e V ⟨⟨v2, rfl, ho2⟩, hb2⟩; obtain ⟨g2, cap2, rest2, rfl, hg2, kg2, hnc2⟩ := own_some ho2 hself; clear ho2)
      have hszV := hb2.size
      have hownV := owns_below hown hb2
      have hbV : Below W.heap.size W V := Below.trans hbR (hb2.mono hszR)
      have hneV := own_ne hown hg2
      clear hown hl hc0 hb2 cQ ktR
      have kcV : Hid (okc = okc) := rfl
      clear kcV
      clear okc kc
      go_loopw [3, 33] (fun p j wx => ∃ m : Nat, m ≤ hits.length ∧ j = .int .i64 (m : Int) ∧ wx.ownsRow W.heap.size 44 2 p (prT L k ++ inn i hits m).length (pv (prT L k ++ inn i hits m)) ∧ p.ownBlock ≠ some g2 ∧ blk wx g2 (iv hits ++ rest2).toArray 3 ∧ Below W.heap.size W wx) (fun _ j _ => hits.length - (intOf j).toNat)
      case atStart => exact ⟨0, by omega, rfl, by simpa [inn] using hownV, hneV, kg2, hbV⟩
      case round =>
        obtain ⟨m, hm, rfl, hown, hne, kx, hbX⟩ := hrel
        have hszX := hbX.size
        have hgx := blk_lt kx
        have hil := inn_len i hits m
        by_cases hmn : m < hits.length
        · have hcx := row_cell kx hmn
          have ocx := blk_older kx
          have y1 := fun h => inn_yes (i := i) (hs := hits) (m := m) hmn h
          have y2 := fun h => inn_no (i := i) (hs := hits) (m := m) hmn h
          generalize hits[m] = o at *
          by_cases hio : i < o
          · have hin : Hid (inn i hits (m + 1) = inn i hits m ++ [(i, o)]) := y1 hio
            clear y1 y2
            have hL2 : (prT L k ++ inn i hits m).length ≤ 20000000 := by rw [List.length_append]; omega
            go_wp2_with (at_builtin; refine wpList_app20 rfl _ _ 40 rfl W.heap.size 44 i0 (.agg #[.int .i64 0, .int .i64 0]) 16 (by kernel_rfl) hi hz0 hz1 hz2 rfl _ _ _ rfl (owns_below hown bBel) _ (.int .i64 i) (.int .i64 o) 44 rfl bBkn rfl rfl (by unfold maxLen; omega) (by omega) (by first | (simp; omega) | omega) ?_; intro v' w2 hown2 hb2 hg2 ho2)
            refine ⟨⟨m + 1, by omega, by go_num, ?_, ?_, blk_grown20 hg2 (blk_alloc kx) hne, Below.trans (Below.alloc hbX hszX _) hb2⟩, by (try go_num); simp [intOf]; (try omega)⟩
            · rw [hin.out, ← List.append_assoc, pv_append20, List.length_append]; exact hown2
            · rcases ho2 with e | e
              · rw [e]; exact hne
              · rw [e]; simp; omega
          · have hin : Hid (inn i hits (m + 1) = inn i hits m) := y2 hio
            clear y1 y2
            go_wp2_with fail
            refine ⟨⟨m + 1, by omega, by go_num, ?_, hne, kx, hbX⟩, by (try go_num); simp [intOf]; (try omega)⟩
            rw [hin.out]; exact hown
        · obtain rfl : m = hits.length := by omega
          rw [← hsucc.out] at hown
          have hownS := own_hid hown
          clear hown
          go_wp2_with fail
          exact ⟨⟨k + 1, by omega, by go_num, hownS.out, hbX⟩, by (try go_num); simp [intOf]; (try omega)⟩
    · obtain rfl : k = n := by omega
      rw [show prT L k = prL L by rw [← prT_all, hnL.out]] at hown
      have hownS := own_hid hown
      clear hown
      go_wp2_with fail
      go_ret
      exact ⟨⟨_, rfl, owns_base hownS.out hszW⟩, Below.trans hbW (Below.mono hbR hszW)⟩

end Go.Proofs.Ytfhhkabdeajieaa
