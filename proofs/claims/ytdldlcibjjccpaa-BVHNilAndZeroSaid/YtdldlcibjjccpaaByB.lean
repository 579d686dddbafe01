/- Chapter 20: the reference's find and Bounds. -/
import Derived.Test.YtdldlcibjjccpaaByA
import Derived.Deep.DeepCutAuto
set_option linter.unusedVariables false
set_option linter.unusedSimpArgs false
namespace Go.Proofs.Ytdldlcibjjccpaa
open Go.RowKit Fx

theorem u_bxs : Try.prog.underlying 50 = some (.slice 26) := by kernel_rfl
theorem info_bx20 : (Try.prog.info? 26).map (fun i => (i.zero, i.size, i.bytes)) = some (some (.agg #[.int .i64 0, .int .i64 0, .int .i64 0, .int .i64 0]), 4, 32) := by kernel_rfl
theorem sz_bx (w : World) : (sizeOf 26).run Try.prog w = .ok 4 w := by kernel_rfl

theorem ids_row {w : World} {B n : Nat} {e : TypeId} {v : Value} {L : Bxs} (h : w.ownsRow B e 1 v n (iv (ids L))) (hn : L.length = n) : w.ownsRow B e 1 v (ids L).length (iv (ids L)) := by rw [List.length_map, hn]; exact h
theorem bxs_ix {w : World} {B : Nat} {v : Value} {L : Bxs} (h : w.ownsRow B 26 4 v L.length (bxv L)) {k : Nat} (hk : k < L.length) : ∃ g, v.ownBlock = some g ∧ (∀ W, (Instr.indexAt 50 v (.int .i64 (k : Int))).run Try.prog W = .ok (.pointer (some ⟨g, k * 4, none⟩)) W) ∧ ∀ w', Below w.heap.size w w' → older g w' = true ∧ w'.cell? ⟨g, k * 4, none⟩ = some (.int .i64 L[k].2.x0) ∧ w'.cell? ⟨g, k * 4 + 1, none⟩ = some (.int .i64 L[k].2.y0) ∧ w'.cell? ⟨g, k * 4 + 2, none⟩ = some (.int .i64 L[k].2.x1) ∧ w'.cell? ⟨g, k * 4 + 3, none⟩ = some (.int .i64 L[k].2.y1) := by
  obtain ⟨g, h1, h2, h3, h4⟩ := row_ix u_bxs sz_bx h hk (bxv_len L)
  refine ⟨g, h2, h3, fun w' hb => ?_⟩
  have q := fun j (hj : j < 4) => (h4 j hj).trans (flat_get (c := fun e : Int × Bx => bxc e.2) (fun _ => rfl) L k hk j hj)
  have a := q 0 (by decide)
  have b := q 1 (by decide)
  have c := q 2 (by decide)
  have d := q 3 (by decide)
  rw [Nat.add_zero] at a
  exact ⟨older_iff.2 (Nat.lt_of_lt_of_le h1 hb.size), (hb.cell (p := ⟨g, k * 4, none⟩) h1).trans a, (hb.cell (p := ⟨g, k * 4 + 1, none⟩) h1).trans b, (hb.cell (p := ⟨g, k * 4 + 2, none⟩) h1).trans c, (hb.cell (p := ⟨g, k * 4 + 3, none⟩) h1).trans d⟩

set_option maxRecDepth 100000 in
set_option maxHeartbeats 8000000 in
theorem rfind_b (m : Nat) (L : Bxs) (nl : Bool) (R : Nat → Prop) (i : Int) (K : Nat) (f : Bool) (hF : FindAt L i K f) (w : World) (h : RefAt w m L nl R) : Calls Try.prog 59 #[.pointer (some ⟨m, 0, none⟩), .int .i64 i] w fun e w' => e = .returned (.tuple #[.int .i64 (K : Int), .bool f]) ∧ Below w.heap.size w w' := by
  obtain ⟨v1, v2, kt, h1, -, -, -⟩ := h.mem
  have hlen := h.len
  clear h
  have h1' := ids_row h1 rfl
  obtain ⟨n, hn'⟩ : ∃ n, L.length = n := ⟨_, rfl⟩
  have l1 := fun ty W => row_len u_ints h1 ty W
  have i1 := fun k (hk : k < (ids L).length) => ints_ix h1' hk
  rw [hn'] at l1 hlen
  have hn : Hid (L.length = n) := hn'
  clear hn' h1 h1'
  have hF : Hid (FindAt L i K f) := hF
  have hKn : K ≤ n := by have := hF.out.le; have := hn.out; omega
  have og : older m w = true := older_iff.2 (blk_lt kt)
  have okt := blk_older kt
  have ckt_0 : _ = some _ := blk_cell kt 0
  have ckt_1 : _ = some _ := blk_cell kt 1
  have ckt_2 : _ = some _ := blk_cell kt 2
  have fkt_0 := blk_free kt 0
  have fkt_1 := blk_free kt 1
  have fkt_2 := blk_free kt 2
  go_enter Try.func59, Try.ntmps59
  go_wp2_with fail
  go_loopw [6] (fun kv wr => ∃ k : Nat, k ≤ K ∧ kv = .int .i64 (k : Int) ∧ wr = w) (fun k _ => n - (intOf k).toNat)
  case atStart => exact ⟨0, by omega, rfl, rfl⟩
  case round =>
    obtain ⟨k, hk, rfl, rfl⟩ := hrel
    by_cases hkn : k < n
    · have hki : (k : Int) < (n : Int) := by omega
      have hkl : k < (ids L).length := by rw [List.length_map]; have := hn.out; omega
      have hkL : k < L.length := by have := hn.out; omega
      obtain ⟨g, -, j1, c1⟩ := i1 k hkl
      obtain ⟨og2, d0⟩ := c1 wr (Below.refl _ _)
      have hx : Hid ((ids L)[k] = L[k].1) := by show _ = _; simp [ids]
      have hlo : Hid (k < K → (ids L)[k] < i) := fun h => by rw [hx.out]; exact hF.out.lo k hkL h
      have hhi : Hid (k = K → ¬ (ids L)[k] < i) := fun h => by subst h; rw [hx.out]; exact hF.out.hi hkL
      have hfd : Hid (k = K → (f = true ↔ (ids L)[k] = i)) := fun h => by subst h; rw [hx.out, hF.out.fd]; exact ⟨fun ⟨_, h⟩ => h, fun h => ⟨hkL, h⟩⟩
      generalize (ids L)[k] = x at *
      clear hx c1 i1
      by_cases hkK : k < K
      · have hxi : ¬ i ≤ x := by have := hlo.out hkK; omega
        go_wp2_with fail
        refine ⟨⟨k + 1, by omega, by go_num, (by first | trivial | rfl)⟩, by (try go_num); simp [intOf]; (try omega)⟩
      · obtain rfl : k = K := by omega
        have hxi : i ≤ x := by have := hhi.out rfl; omega
        have hf := hfd.out rfl
        have hd : Hid (f = decide (x = i)) := by show _ = _; cases f <;> simp at hf ⊢ <;> exact hf
        clear hf hfd hlo hhi
        clear hF
        go_upto_region 5 with fail
        refine wp_region_gw (by kernel_rfl) (by kernel_rfl) ?_
        repeat (go_big_quiet_step (fail))
        refine wpQuiet_nil ?_
        intro w1 hw1
        obtain ⟨q, rfl⟩ := hw1
        go_wp2_with fail
        exact bodyPost_ret (v := .tuple #[.int .i64 (k : Int), .bool (x == i)]) (by simp [results, Try.results59, go_sem]) rfl ⟨by rw [hd.out]; rfl, bBel⟩
    · obtain rfl : k = n := by omega
      obtain rfl : K = k := by omega
      have hf : f = false := by
        cases f
        · rfl
        · obtain ⟨h, _⟩ := hF.out.fd.1 rfl; have := hn.out; omega
      subst hf
      clear i1 hF
      go_wp2_with fail
      exact bodyPost_ret (v := .tuple #[.int .i64 (K : Int), .bool false]) (by simp [results, Try.results59, go_sem]) rfl ⟨rfl, bBel⟩

set_option maxRecDepth 100000 in
set_option maxHeartbeats 8000000 in
theorem rbounds_b (m : Nat) (L : Bxs) (nl : Bool) (R : Nat → Prop) (i : Int) (w : World) (h : RefAt w m L nl R) : Calls Try.prog 44 #[.pointer (some ⟨m, 0, none⟩), .int .i64 i] w fun e w' => e = .returned (.tuple #[.agg #[.int .i64 ((look L i).getD Bx.zero).x0, .int .i64 ((look L i).getD Bx.zero).y0, .int .i64 ((look L i).getD Bx.zero).x1, .int .i64 ((look L i).getD Bx.zero).y1], .bool (look L i).isSome]) ∧ Below w.heap.size w w' := by
  obtain ⟨K, f, hF⟩ := find_ex L i
  have cF := fun w' hh => rfind_b m L nl R i K f hF w' hh
  have h0 := h
  obtain ⟨v1, v2, kt, -, h2, -, -⟩ := h.mem
  cases f
  · rw [hF.lookF h.srt]
    simp only [Option.getD_none, Option.isSome_none, Bx.zero]
    clear h2 hF
    go_enter Try.func44, Try.ntmps44
    go_wp2_with (go_at_call 59; refine Calls.mono (gw_at (cF _ (h0.below bBel))) ?_; rintro e w1 ⟨rfl, qF, rfl⟩)
    refine post_nm20 ?_
    intro Z hZ
    have kZ : blk Z w.heap.size #[.int .i64 0, .int .i64 0, .int .i64 0, .int .i64 0] 26 := by rw [hZ]; first | exact bBkn | exact (by apply blk_of; (repeat (first | with_reducible apply blk_set | with_reducible apply blk_gw | with_reducible apply blk_drew | with_reducible apply blk_alloc | with_reducible exact blk_new _ _ _ | ((with_reducible refine blk_at ?_); (simp; done)))); (first | rfl | simp))
    have hbZ : Below w.heap.size w Z := by rw [hZ]; exact bBel
    clear hZ
    have okZ := blk_older kZ
    have ckZ_0 : _ = some _ := blk_cell kZ 0
    have ckZ_1 : _ = some _ := blk_cell kZ 1
    have ckZ_2 : _ = some _ := blk_cell kZ 2
    have ckZ_3 : _ = some _ := blk_cell kZ 3
    have fkZ_0 := blk_free kZ 0
    have fkZ_1 := blk_free kZ 1
    have fkZ_2 := blk_free kZ 2
    have fkZ_3 := blk_free kZ 3
    exact bodyPost_ret (v := .tuple #[.agg #[.int .i64 0, .int .i64 0, .int .i64 0, .int .i64 0], .bool false]) (by simp [results, Try.results44, go_sem, ckZ_0, ckZ_1, ckZ_2, ckZ_3]) rfl ⟨rfl, hbZ⟩
  · obtain ⟨hK, -, hL⟩ := hF.lookT h.srt
    rw [hL]
    simp only [Option.getD_some, Option.isSome_some]
    obtain ⟨g, -, j1, c1⟩ := bxs_ix h2 hK
    generalize L[K].2 = b at *
    obtain ⟨x0, y0, x1, y1⟩ := b
    dsimp only at *
    clear h2 hF hL h
    go_enter Try.func44, Try.ntmps44
    go_upto_region 4 with (go_at_call 59; refine Calls.mono (gw_at (cF _ (h0.below bBel))) ?_; rintro e w1 ⟨rfl, qF, rfl⟩)
    refine wp_named ?_
    intro X hX
    have hbX : Below w.heap.size w X := by rw [hX]; exact bBel
    have kr : blk X w.heap.size #[.int .i64 0, .int .i64 0, .int .i64 0, .int .i64 0] 26 := by rw [hX]; exact bBkn
    clear hX
    have ktX := blk_below hbX kt
    obtain ⟨og2, d0, d1, d2, d3⟩ := c1 X hbX
    have hltt := blk_lt kt
    clear c1 cF h0
    have hzX := hbX.size
    have oktX := blk_older ktX
    have cktX_0 : _ = some _ := blk_cell ktX 0
    have cktX_1 : _ = some _ := blk_cell ktX 1
    have cktX_2 : _ = some _ := blk_cell ktX 2
    have fktX_0 := blk_free ktX 0
    have fktX_1 := blk_free ktX 1
    have fktX_2 := blk_free ktX 2
    have okr := blk_older kr
    have ckr_0 : _ = some _ := blk_cell kr 0
    have ckr_1 : _ = some _ := blk_cell kr 1
    have ckr_2 : _ = some _ := blk_cell kr 2
    have ckr_3 : _ = some _ := blk_cell kr 3
    have fkr_0 := blk_free kr 0
    have fkr_1 := blk_free kr 1
    have fkr_2 := blk_free kr 2
    have fkr_3 := blk_free kr 3
    go_wp2_with fail
    refine post_nm20 ?_
    intro Z hZ
    have kZ : blk Z w.heap.size #[.int .i64 x0, .int .i64 y0, .int .i64 x1, .int .i64 y1] 26 := by rw [hZ]; exact (by apply blk_of; (repeat (first | with_reducible apply blk_set | with_reducible apply blk_gw | with_reducible apply blk_drew | with_reducible apply blk_alloc | with_reducible exact kr | with_reducible exact blk_new _ _ _ | ((with_reducible refine blk_at ?_); (simp; done)))); (first | rfl | simp))
    have hbZ : Below w.heap.size w Z := by rw [hZ]; exact bBel
    clear hZ
    have okZ := blk_older kZ
    have ckZ_0 : _ = some _ := blk_cell kZ 0
    have ckZ_1 : _ = some _ := blk_cell kZ 1
    have ckZ_2 : _ = some _ := blk_cell kZ 2
    have ckZ_3 : _ = some _ := blk_cell kZ 3
    have fkZ_0 := blk_free kZ 0
    have fkZ_1 := blk_free kZ 1
    have fkZ_2 := blk_free kZ 2
    have fkZ_3 := blk_free kZ 3
    exact bodyPost_ret (v := .tuple #[.agg #[.int .i64 x0, .int .i64 y0, .int .i64 x1, .int .i64 y1], .bool true]) (by simp [results, Try.results44, go_sem, ckZ_0, ckZ_1, ckZ_2, ckZ_3]) rfl ⟨rfl, hbZ⟩

end Go.Proofs.Ytdldlcibjjccpaa
