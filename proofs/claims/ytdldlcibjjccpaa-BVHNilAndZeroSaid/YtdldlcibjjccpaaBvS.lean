/- Chapter 20: contracts of New, Len, Height, Bounds, newLeaf. -/
import Derived.Test.YtdldlcibjjccpaaBvR
import Derived.Deep.DeepCutAuto
set_option linter.unusedVariables false
set_option linter.unusedSimpArgs false
namespace Go.Proofs.Ytdldlcibjjccpaa
open Go.RowKit Fx

theorem post_nm20 {P : Program} {fn : Func} {R : Ending → World → Prop} {a : Act} {w : World} {x : Exit} (h : ∀ Z, Z = w → bodyPost P fn R x a Z) : bodyPost P fn R x a w := h w rfl

set_option maxRecDepth 100000 in
set_option maxHeartbeats 4000000 in
theorem new_b (w : World) : Calls Try.prog 11 #[] w fun e w' => e = .returned (.pointer (some ⟨w.heap.size, 0, none⟩)) ∧ blk w' w.heap.size #[.pointer none, .map none] 67 ∧ Below w.heap.size w w' := by
  go_enter Try.func11, Try.ntmps11
  go_wp2_with fail
  go_ret
  exact ⟨rfl, bBkn, bBel⟩

theorem new_tree {w' : World} {a : Nat} (kt : blk w' a #[.pointer none, .map none] 67) : TreeAt w' a [] (fun k => k = a) :=
  ⟨fun k h => h ▸ blk_lt kt, rfl, List.Pairwise.nil, by simp, by simp, by simp, none, none, fun _ => none, fun _ => default, fun _ => False, kt, fun _ h => h.elim, fun _ h => h.elim, id, by simp, ⟨fun _ => rfl, rfl⟩, trivial, by simp [obs], List.Perm.refl _, by simp [olv]⟩

set_option maxRecDepth 100000 in
set_option maxHeartbeats 4000000 in
theorem newleaf_b (i x0 y0 x1 y1 : Int) (w : World) : Calls Try.prog 48 #[.int .i64 i, .agg #[.int .i64 x0, .int .i64 y0, .int .i64 x1, .int .i64 y1]] w fun e w' => e = .returned (.pointer (some ⟨w.heap.size + 1, 0, none⟩)) ∧ blk w' (w.heap.size + 1) (ndc ⟨i, ⟨x0, y0, x1, y1⟩, 1, none, none, none⟩) 72 ∧ Below w.heap.size w w' := by
  simp only [ndc, nptr_none]
  go_enter Try.func48, Try.ntmps48
  go_wp2_with fail
  go_ret
  exact ⟨rfl, bBkn, bBel⟩

set_option maxRecDepth 100000 in
set_option maxHeartbeats 4000000 in
theorem len_b (a : Nat) (L : Bxs) (S : Nat → Prop) (w : World) (h : TreeAt w a L S) : Calls Try.prog 17 #[.pointer (some ⟨a, 0, none⟩)] w fun e w' => e = .returned (.int .i64 (L.length : Int)) ∧ Below w.heap.size w w' := by
  obtain ⟨T, mb, F, M, N, kt, m2, m3, m4, m5, m6, m7⟩ := h.mem
  have hl := fun ty => mapat_len m6 ty
  clear m2 m3 m4 m5 m6 m7 h
  generalize nptr (T.map Tr.b) = root at *
  generalize L.length = n at *
  have okt := blk_older kt
  have ckt_0 : _ = some _ := blk_cell kt 0
  have ckt_1 : _ = some _ := blk_cell kt 1
  have fkt_0 := blk_free kt 0
  have fkt_1 := blk_free kt 1
  go_enter Try.func17, Try.ntmps17
  go_wp2_with fail
  go_ret
  exact ⟨rfl, bBel⟩

set_option maxRecDepth 100000 in
set_option maxHeartbeats 4000000 in
theorem len0_b (w : World) : Calls Try.prog 17 #[.pointer none] w fun e w' => e = .returned (.int .i64 0) ∧ Below w.heap.size w w' := by
  go_enter Try.func17, Try.ntmps17
  go_wp2_with fail
  go_ret
  exact ⟨rfl, bBel⟩

/-- What the height of a tree of n boxes may be. -/
def HtOk (n : Nat) (h : Int) : Prop := 0 ≤ h ∧ (n = 0 → h = 0) ∧ (n ≠ 0 → 1 ≤ h ∧ (h = 1 → n = 1) ∧ (n = 1 → h = 1) ∧ (n : Int) ≤ (2 ^ (h.toNat - 1) : Nat) ∧ h ≤ n ∧ ∀ k : Nat, 2 * (k : Int) + 1 ≤ h → 2 ^ k ≤ n)
theorem ht_ok (T : Tr) (h : T.bal) : HtOk T.lv.length (T.ht : Int) := by
  have p1 := T.ht_pos; have p2 := T.lv_pos; have p3 := T.ht_lv; have p4 := T.lv_le
  refine ⟨by omega, fun h => by omega, fun _ => ⟨by omega, fun e => ?_, fun e => ?_, ?_, by omega, fun k hk => ?_⟩⟩
  · have : T.ht = 1 := by omega
    rw [this] at p4; simp at p4; omega
  · omega
  · rw [Int.toNat_natCast]; exact Int.ofNat_le.2 p4
  · have := T.lv_ge k h (by omega); omega

set_option maxRecDepth 100000 in
set_option maxHeartbeats 4000000 in
theorem height_b (a : Nat) (L : Bxs) (S : Nat → Prop) (w : World) (h : TreeAt w a L S) : Calls Try.prog 29 #[.pointer (some ⟨a, 0, none⟩)] w fun e w' => (∃ H, e = .returned (.int .i64 H) ∧ HtOk L.length H) ∧ Below w.heap.size w w' := by
  obtain ⟨T, mb, F, M, N, kt, m2, m3, m4, m5, m6, m7, m8, m9, m10⟩ := h.mem
  have hlen := m9.length_eq
  rw [List.length_map] at hlen
  cases T with
  | none =>
    simp only [Option.map_none, nptr_none] at kt
    have hH : HtOk L.length 0 := ⟨by omega, fun _ => rfl, fun h => absurd (by simpa [olv] using hlen.symm) h⟩
    clear m2 m3 m4 m5 m6 m7 m8 m9 m10 h
    have A : Hid (HtOk L.length 0) := hH
    clear hH hlen
    have okt := blk_older kt
    have ckt_0 : _ = some _ := blk_cell kt 0
    have ckt_1 : _ = some _ := blk_cell kt 1
    have fkt_0 := blk_free kt 0
    have fkt_1 := blk_free kt 1
    go_enter Try.func29, Try.ntmps29
    go_wp2_with fail
    go_ret
    exact ⟨⟨_, rfl, A.out⟩, bBel⟩
  | some T =>
    simp only [Option.map_some, nptr_some] at kt
    have kn := m2 T.b (m8 _ T.b_mem)
    have hh := m7.1.ht
    have A : Hid (HtOk L.length (T.ht : Int)) := by show HtOk _ _; rw [← hlen]; exact ht_ok T m7.2.2.1
    obtain ⟨Q, hQ⟩ : ∃ Q, M T.b = Q := ⟨_, rfl⟩
    rw [hQ] at kn hh
    clear m2 m3 m4 m5 m6 m7 m8 m9 m10 h hlen hQ
    obtain ⟨iQ, ⟨x0Q, y0Q, x1Q, y1Q⟩, hQ, pQ, lQ, rQ⟩ := Q
    dsimp only at hh
    subst hh
    simp only [ndc] at kn
    generalize nptr pQ = PQ at *
    generalize nptr lQ = LQ at *
    generalize nptr rQ = RQ at *
    generalize T.b = tb at *
    have okt := blk_older kt
    have ckt_0 : _ = some _ := blk_cell kt 0
    have ckt_1 : _ = some _ := blk_cell kt 1
    have fkt_0 := blk_free kt 0
    have fkt_1 := blk_free kt 1
    have okn := blk_older kn
    have ckn_0 : _ = some _ := blk_cell kn 0
    have ckn_1 : _ = some _ := blk_cell kn 1
    have ckn_2 : _ = some _ := blk_cell kn 2
    have ckn_3 : _ = some _ := blk_cell kn 3
    have ckn_4 : _ = some _ := blk_cell kn 4
    have ckn_5 : _ = some _ := blk_cell kn 5
    have ckn_6 : _ = some _ := blk_cell kn 6
    have ckn_7 : _ = some _ := blk_cell kn 7
    have ckn_8 : _ = some _ := blk_cell kn 8
    have fkn_0 := blk_free kn 0
    have fkn_1 := blk_free kn 1
    have fkn_2 := blk_free kn 2
    have fkn_3 := blk_free kn 3
    have fkn_4 := blk_free kn 4
    have fkn_5 := blk_free kn 5
    have fkn_6 := blk_free kn 6
    have fkn_7 := blk_free kn 7
    have fkn_8 := blk_free kn 8
    go_enter Try.func29, Try.ntmps29
    go_wp2_with fail
    go_ret
    exact ⟨⟨_, rfl, A.out⟩, bBel⟩

set_option maxRecDepth 100000 in
set_option maxHeartbeats 4000000 in
theorem height0_b (w : World) : Calls Try.prog 29 #[.pointer none] w fun e w' => e = .returned (.int .i64 0) ∧ Below w.heap.size w w' := by
  go_enter Try.func29, Try.ntmps29
  go_wp2_with fail
  go_ret
  exact ⟨rfl, bBel⟩

theorem TreeAt.find {w : World} {a : Nat} {L : Bxs} {S : Nat → Prop} {T : Option Tr} {F : Int → Option Nat} {M : Nat → Nd} (h : TreeAt w a L S) (m7 : OTop M T) (m9 : ((olv T).map (·.2)).Perm L) (m10 : ∀ i c, F i = some c ↔ ∃ x, (c, i, x) ∈ olv T) (i : Int) :
    (F i = none ∧ look L i = none) ∨ ∃ c x, F i = some c ∧ look L i = some x ∧ (c, i, x) ∈ olv T ∧ (M c).x = x ∧ (M c).id = i ∧ (M c).h = 1 ∧ c ∈ obs T := by
  cases hF : F i with
  | none =>
    refine .inl ⟨rfl, look_none.2 fun e he hi => ?_⟩
    obtain ⟨y, hy, rfl⟩ := List.mem_map.1 (m9.mem_iff.2 he)
    have := (m10 i y.1).2 ⟨y.2.2, by rw [← hi]; exact hy⟩
    rw [hF] at this; cases this
  | some c =>
    obtain ⟨x, hx⟩ := (m10 i c).1 hF
    have hm : (i, x) ∈ L := m9.mem_iff.1 (List.mem_map.2 ⟨_, hx, rfl⟩)
    cases T with
    | none => simp [olv] at hx
    | some T =>
      obtain ⟨C, hC⟩ := leaf_way T _ hx
      have hl := (plug_lay C _ (hC ▸ m7.1) (hC ▸ m7.2.1)).1
      exact .inr ⟨c, x, rfl, (look_some h.srt).2 hm, hx, hl.2.1, hl.1, hl.2.2, T.lv_bs _ hx⟩

set_option maxRecDepth 100000 in
set_option maxHeartbeats 4000000 in
theorem bounds_b (a : Nat) (L : Bxs) (S : Nat → Prop) (i : Int) (hi : i64k i) (w : World) (h : TreeAt w a L S) : Calls Try.prog 14 #[.pointer (some ⟨a, 0, none⟩), .int .i64 i] w fun e w' => e = .returned (.tuple #[.agg #[.int .i64 ((look L i).getD Bx.zero).x0, .int .i64 ((look L i).getD Bx.zero).y0, .int .i64 ((look L i).getD Bx.zero).x1, .int .i64 ((look L i).getD Bx.zero).y1], .bool (look L i).isSome]) ∧ Below w.heap.size w w' := by
  obtain ⟨T, mb, F, M, N, kt, m2, m3, m4, m5, m6, m7, m8, m9, m10⟩ := h.mem
  obtain ⟨W, hW⟩ : ∃ W, W = w.alloc (.cells #[.int .i64 0, .int .i64 0, .int .i64 0, .int .i64 0] 26) := ⟨_, rfl⟩
  have hbW : Below w.heap.size w W := by rw [hW]; exact bBel
  have hl := mapat_look (mapat_but m6 (But.ofBelow hbW fun _ => False) fun _ _ h => h) hi
  rw [hW] at hl
  clear hbW hW
  rcases h.find m7 m9 m10 i with ⟨hF, hL⟩ | ⟨c, x, hF, hL, hx, e1, e2, e3, e4⟩
  · rw [hL]
    rw [hF, nptr_none] at hl
    clear m2 m3 m4 m5 m6 m7 m8 m9 m10 h hF hL
    simp only [Option.getD_none, Option.isSome_none, Bx.zero]
    generalize nptr (T.map Tr.b) = root at *
    have okt := blk_older kt
    have ckt_0 : _ = some _ := blk_cell kt 0
    have ckt_1 : _ = some _ := blk_cell kt 1
    have fkt_0 := blk_free kt 0
    have fkt_1 := blk_free kt 1
    go_enter Try.func14, Try.ntmps14
    go_wp2_with fail
    refine post_nm20 ?_
    intro Z hZ
    have kZ : blk Z w.heap.size #[.int .i64 0, .int .i64 0, .int .i64 0, .int .i64 0] 26 := by rw [hZ]; first | exact bBkn | exact (by apply blk_of; (repeat (first | with_reducible apply blk_set | with_reducible apply blk_gw | with_reducible apply blk_drew | with_reducible apply blk_alloc | with_reducible exact blk_new _ _ _ | ((with_reducible refine blk_at ?_); (simp; done)))); (first | rfl | simp))
    have hbZ : Below w.heap.size w Z := by rw [hZ]; exact bBel
    clear hZ
    have okZ := blk_older kZ
    have ckZ_0 : _ = some _ := blk_cell kZ 0
    have ckZ_1 : _ = some _ := blk_cell kZ 1
    have ckZ_2 : _ = some _ := blk_cell kZ 2
    have ckZ_3 : _ = some _ := blk_cell kZ 3
    have fkZ_0 := blk_free kZ 0
    have fkZ_1 := blk_free kZ 1
    have fkZ_2 := blk_free kZ 2
    have fkZ_3 := blk_free kZ 3
    exact bodyPost_ret (v := .tuple #[.agg #[.int .i64 0, .int .i64 0, .int .i64 0, .int .i64 0], .bool false]) (by simp [results, Try.results14, go_sem, ckZ_0, ckZ_1, ckZ_2, ckZ_3]) rfl ⟨rfl, hbZ⟩
  · rw [hL]
    rw [hF, nptr_some] at hl
    have kn := m2 c (m8 c e4)
    obtain ⟨Q, hQ⟩ : ∃ Q, M c = Q := ⟨_, rfl⟩
    rw [hQ] at kn e1
    clear m2 m3 m4 m5 m6 m7 m8 m9 m10 h hF hL hx e2 e3 e4 hQ
    simp only [Option.getD_some, Option.isSome_some]
    obtain ⟨iQ, ⟨x0Q, y0Q, x1Q, y1Q⟩, hQ, pQ, lQ, rQ⟩ := Q
    dsimp only at e1
    subst e1
    dsimp only
    simp only [ndc] at kn
    generalize nptr pQ = PQ at *
    generalize nptr lQ = LQ at *
    generalize nptr rQ = RQ at *
    generalize nptr (T.map Tr.b) = root at *
    have okt := blk_older kt
    have ckt_0 : _ = some _ := blk_cell kt 0
    have ckt_1 : _ = some _ := blk_cell kt 1
    have fkt_0 := blk_free kt 0
    have fkt_1 := blk_free kt 1
    have okn := blk_older kn
    have ckn_0 : _ = some _ := blk_cell kn 0
    have ckn_1 : _ = some _ := blk_cell kn 1
    have ckn_2 : _ = some _ := blk_cell kn 2
    have ckn_3 : _ = some _ := blk_cell kn 3
    have ckn_4 : _ = some _ := blk_cell kn 4
    have ckn_5 : _ = some _ := blk_cell kn 5
    have ckn_6 : _ = some _ := blk_cell kn 6
    have ckn_7 : _ = some _ := blk_cell kn 7
    have ckn_8 : _ = some _ := blk_cell kn 8
    have fkn_0 := blk_free kn 0
    have fkn_1 := blk_free kn 1
    have fkn_2 := blk_free kn 2
    have fkn_3 := blk_free kn 3
    have fkn_4 := blk_free kn 4
    have fkn_5 := blk_free kn 5
    have fkn_6 := blk_free kn 6
    have fkn_7 := blk_free kn 7
    have fkn_8 := blk_free kn 8
    go_enter Try.func14, Try.ntmps14
    go_wp2_with fail
    refine post_nm20 ?_
    intro Z hZ
    have kZ : blk Z w.heap.size #[.int .i64 x0Q, .int .i64 y0Q, .int .i64 x1Q, .int .i64 y1Q] 26 := by rw [hZ]; first | exact bBkn | exact (by apply blk_of; (repeat (first | with_reducible apply blk_set | with_reducible apply blk_gw | with_reducible apply blk_drew | with_reducible apply blk_alloc | with_reducible exact blk_new _ _ _ | ((with_reducible refine blk_at ?_); (simp; done)))); (first | rfl | simp))
    have hbZ : Below w.heap.size w Z := by rw [hZ]; exact bBel
    clear hZ
    have okZ := blk_older kZ
    have ckZ_0 : _ = some _ := blk_cell kZ 0
    have ckZ_1 : _ = some _ := blk_cell kZ 1
    have ckZ_2 : _ = some _ := blk_cell kZ 2
    have ckZ_3 : _ = some _ := blk_cell kZ 3
    have fkZ_0 := blk_free kZ 0
    have fkZ_1 := blk_free kZ 1
    have fkZ_2 := blk_free kZ 2
    have fkZ_3 := blk_free kZ 3
    exact bodyPost_ret (v := .tuple #[.agg #[.int .i64 x0Q, .int .i64 y0Q, .int .i64 x1Q, .int .i64 y1Q], .bool true]) (by simp [results, Try.results14, go_sem, ckZ_0, ckZ_1, ckZ_2, ckZ_3]) rfl ⟨rfl, hbZ⟩

set_option maxRecDepth 100000 in
set_option maxHeartbeats 4000000 in
theorem bounds0_b (i : Int) (w : World) : Calls Try.prog 14 #[.pointer none, .int .i64 i] w fun e w' => e = .returned (.tuple #[.agg #[.int .i64 0, .int .i64 0, .int .i64 0, .int .i64 0], .bool false]) ∧ Below w.heap.size w w' := by
    go_enter Try.func14, Try.ntmps14
    go_wp2_with fail
    refine post_nm20 ?_
    intro Z hZ
    have kZ : blk Z w.heap.size #[.int .i64 0, .int .i64 0, .int .i64 0, .int .i64 0] 26 := by rw [hZ]; first | exact bBkn | exact (by apply blk_of; (repeat (first | with_reducible apply blk_set | with_reducible apply blk_gw | with_reducible apply blk_drew | with_reducible apply blk_alloc | with_reducible exact blk_new _ _ _ | ((with_reducible refine blk_at ?_); (simp; done)))); (first | rfl | simp))
    have hbZ : Below w.heap.size w Z := by rw [hZ]; exact bBel
    clear hZ
    have okZ := blk_older kZ
    have ckZ_0 : _ = some _ := blk_cell kZ 0
    have ckZ_1 : _ = some _ := blk_cell kZ 1
    have ckZ_2 : _ = some _ := blk_cell kZ 2
    have ckZ_3 : _ = some _ := blk_cell kZ 3
    have fkZ_0 := blk_free kZ 0
    have fkZ_1 := blk_free kZ 1
    have fkZ_2 := blk_free kZ 2
    have fkZ_3 := blk_free kZ 3
    exact bodyPost_ret (v := .tuple #[.agg #[.int .i64 0, .int .i64 0, .int .i64 0, .int .i64 0], .bool false]) (by simp [results, Try.results14, go_sem, ckZ_0, ckZ_1, ckZ_2, ckZ_3]) rfl ⟨rfl, hbZ⟩

end Go.Proofs.Ytdldlcibjjccpaa
