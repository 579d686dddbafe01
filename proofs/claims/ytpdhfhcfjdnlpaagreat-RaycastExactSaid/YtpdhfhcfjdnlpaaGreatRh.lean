/- Contracts of chapter 18's program: hits in memory, hitOf, firstHit. -/
import Derived.Test.YtpdhfhcfjdnlpaaGreatCoD
import Derived.Test.YtpdhfhcfjdnlpaaGreatCo2
import Derived.Test.YtpdhfhcfjdnlpaaGreatRa
set_option linter.unusedVariables false
namespace Go.Proofs.YtpdhfhcfjdnlpaaGreat
open Go.RowKit Fx

/-- A hit in memory: the fraction, the normal, whether it was found. -/
def htc (h : Ht) : List Value := [.int .i64 h.t, .int .i64 h.x, .int .i64 h.y, .bool h.b]
abbrev Hts (w : World) (A : Option Addr) (l : List Ht) : Prop := Els w 4 (fun cs f => cs = htc f) A l
theorem Hts.to {w w' : World} {A : Option Addr} {l : List Ht} (h : Hts w A l) (hb : Below w.heap.size w w') : Hts w' A l := Els.to h (by decide) (fun _ _ h => h) hb
theorem hts_open {w : World} {A : Option Addr} {l : List Ht} (h : Hts w A l) (h0 : 0 < l.length) : ∃ b off, A = some ⟨b, off, none⟩ ∧ ∀ i (h : i < l.length), w.cell? ⟨b, off + i * 4, none⟩ = some (.int .i64 l[i].t) ∧ w.cell? ⟨b, off + i * 4 + 1, none⟩ = some (.int .i64 l[i].x) ∧ w.cell? ⟨b, off + i * 4 + 2, none⟩ = some (.int .i64 l[i].y) ∧ w.cell? ⟨b, off + i * 4 + 3, none⟩ = some (.bool l[i].b) := by
  rcases h with h | ⟨b, off, rfl, hc⟩
  · rw [h] at h0; simp at h0
  · refine ⟨b, off, rfl, fun i hi => ?_⟩
    obtain ⟨cs, _, k, rfl⟩ := hc i hi
    exact ⟨k 0 (by decide), k 1 (by decide), k 2 (by decide), k 3 (by decide)⟩
theorem htc_len (h : Ht) : (htc h).length = 4 := rfl
theorem hts_of_blk {w : World} {b : Nat} {t : TypeId} {l : List Ht} (h : blk w b (l.flatMap htc).toArray t) : Hts w (some ⟨b, 0, none⟩) l :=
  .inr ⟨b, 0, rfl, fun i hi => ⟨htc l[i], rfl, fun j hj => by rw [Nat.zero_add, blk_cell h, List.getElem?_toArray]; exact flat_get htc_len l i hi j hj, rfl⟩⟩
theorem pts4_of {w : World} {b : Nat} {t : TypeId} {x1 y1 x2 y2 x3 y3 x4 y4 : Int} (h : blk w b #[.int .i64 x1, .int .i64 y1, .int .i64 x2, .int .i64 y2, .int .i64 x3, .int .i64 y3, .int .i64 x4, .int .i64 y4] t) : Pts w (some ⟨b, 0, none⟩) [(x1, y1), (x2, y2), (x3, y3), (x4, y4)] :=
  .inr ⟨b, 0, rfl, fun i hi => by
    have h4 : i = 0 ∨ i = 1 ∨ i = 2 ∨ i = 3 := by simp at hi; omega
    rcases h4 with rfl | rfl | rfl | rfl
    · exact ⟨blk_cell h 0, blk_cell h 1⟩
    · exact ⟨blk_cell h 2, blk_cell h 3⟩
    · exact ⟨blk_cell h 4, blk_cell h 5⟩
    · exact ⟨blk_cell h 6, blk_cell h 7⟩⟩
/-- The first of the first k hits with the smallest fraction. -/
def fstF (L : List Ht) (k : Nat) : Ht := (L.take k).foldl fst2 .no
theorem fstF_zero (L : List Ht) : fstF L 0 = .no := rfl
theorem fstF_succ {L : List Ht} {k : Nat} (h : k < L.length) : fstF L (k + 1) = fst2 (fstF L k) L[k] := by
  unfold fstF
  rw [List.take_add_one, List.getElem?_eq_getElem h, Option.toList_some, List.foldl_append]; rfl
theorem fst2_1 {a : Ht} {t x y : Int} : fst2 a ⟨t, x, y, false⟩ = a := by unfold fst2; rw [if_neg]; rintro ⟨h, -⟩; cases h
theorem fst2_2 {t x y t' x' y' : Int} : fst2 ⟨t, x, y, false⟩ ⟨t', x', y', true⟩ = ⟨t', x', y', true⟩ := by unfold fst2; rw [if_pos ⟨rfl, .inl rfl⟩]
theorem fst2_3 {t x y t' x' y' : Int} {b : Bool} (h : t' < t) : fst2 ⟨t, x, y, b⟩ ⟨t', x', y', true⟩ = ⟨t', x', y', true⟩ := by unfold fst2; rw [if_pos ⟨rfl, .inr h⟩]
theorem fst2_4 {t x y t' x' y' : Int} (h : ¬ t' < t) : fst2 ⟨t, x, y, true⟩ ⟨t', x', y', true⟩ = ⟨t, x, y, true⟩ := by unfold fst2; rw [if_neg]; rintro ⟨-, c | c⟩; cases c; exact h c

theorem yhit_b (t x y : Int) (b : Bool) (w : World) : Calls Tryz.prog 35 #[.int .i64 t, .agg #[.int .i64 x, .int .i64 y], .bool b] w fun e w' => e = .returned (.agg #[.int .i64 t, .int .i64 x, .int .i64 y, .bool b]) ∧ Below w.heap.size w w' := by
  go_enter Tryz.func35, Tryz.ntmps35
  go_wp2_with fail
  exact bodyPost_ret (v := .agg #[.int .i64 t, .int .i64 x, .int .i64 y, .bool b]) (by simp [results, Tryz.results35, go_sem]; try (first | with_reducible rfl | exact ⟨rfl, rfl⟩ | exact ⟨rfl, rfl, rfl⟩ | exact ⟨rfl, rfl, rfl, rfl⟩ | exact ⟨rfl, rfl, rfl, rfl, rfl⟩ | exact ⟨rfl, rfl, rfl, rfl, rfl, rfl⟩ | rfl)) rfl ⟨rfl, bBel⟩

set_option maxHeartbeats 8000000 in
theorem yfst_b (A : Option Addr) (cap : Nat) (L : List Ht) (hl : L.length ≤ 1000000) (w : World) (hp : Hts w A L) : Calls Tryz.prog 34 #[.slice A L.length cap] w fun e w' => e = .returned (.agg #[.int .i64 (fstF L L.length).t, .int .i64 (fstF L L.length).x, .int .i64 (fstF L L.length).y, .bool (fstF L L.length).b]) ∧ Below w.heap.size w w' := by
  have h0 : Hid (fstF L 0 = ⟨0, 0, 0, false⟩) := rfl
  have hS : Hid (∀ k (h : k < L.length), fstF L (k + 1) = fst2 (fstF L k) L[k]) := fun k h => fstF_succ h
  generalize fstF L = F at *
  go_enter Tryz.func34, Tryz.ntmps34
  go_upto_region 3 with fail
  refine wp_named ?_
  intro W hW
  have kR : blk W w.heap.size #[.int .i64 0, .int .i64 0, .int .i64 0, .bool false] 55 := by rw [hW]; exact bBkn
  have kF : blk W (w.heap.size + 1) #[.int .i64 (F 0).t, .int .i64 (F 0).x, .int .i64 (F 0).y, .bool (F 0).b] 55 := by rw [hW, h0.out]; exact bBkn
  have hbW : Below w.heap.size w W := by rw [hW]; exact bBel
  clear hW
  go_loopw [8] (fun i wr => ∃ k : Nat, k ≤ L.length ∧ i = .int .i64 (k : Int) ∧ blk wr w.heap.size #[.int .i64 0, .int .i64 0, .int .i64 0, .bool false] 55 ∧ blk wr (w.heap.size + 1) #[.int .i64 (F k).t, .int .i64 (F k).x, .int .i64 (F k).y, .bool (F k).b] 55 ∧ Below w.heap.size w wr)
    (fun i _ => (L.length - intOf i).toNat)
  case atStart => exact ⟨0, by omega, rfl, kR, kF, hbW⟩
  case round =>
    obtain ⟨k, hk, rfl, kR1, kF1, hbR⟩ := hrel
    have hszR := hbR.size
    obtain ⟨f, hf⟩ : ∃ f, Hid (F k = f) := ⟨_, rfl⟩
    rw [hf.out] at kF1
    obtain ⟨t, x, y, b⟩ := f
    dsimp only at kF1
    have okR1 := blk_older kR1
    have ckR1_0 : _ = some _ := blk_cell kR1 0
    have ckR1_1 : _ = some _ := blk_cell kR1 1
    have ckR1_2 : _ = some _ := blk_cell kR1 2
    have ckR1_3 : _ = some _ := blk_cell kR1 3
    have fkR1_0 := blk_free kR1 0
    have fkR1_1 := blk_free kR1 1
    have fkR1_2 := blk_free kR1 2
    have fkR1_3 := blk_free kR1 3
    have okF1 := blk_older kF1
    have ckF1_0 : _ = some _ := blk_cell kF1 0
    have ckF1_1 : _ = some _ := blk_cell kF1 1
    have ckF1_2 : _ = some _ := blk_cell kF1 2
    have ckF1_3 : _ = some _ := blk_cell kF1 3
    have fkF1_0 := blk_free kF1 0
    have fkF1_1 := blk_free kF1 1
    have fkF1_2 := blk_free kF1 2
    have fkF1_3 := blk_free kF1 3
    by_cases hlt : k < L.length
    · have j0 : (0 : Int) ≤ (k : Int) := by omega
      have j1 : (k : Int) < (L.length : Int) := by omega
      obtain ⟨b2, off2, hA2, hc2⟩ := hts_open (Hts.to hp hbR) (by omega)
      subst hA2
      obtain ⟨d0, d1, d2, d3⟩ := hc2 k hlt
      have ob := older_of_cell d0
      have hs : Hid (F (k + 1) = fst2 (F k) L[k]) := hS.out k hlt
      rw [hf.out] at hs
      clear hc2
      obtain ⟨g, hg⟩ : ∃ g, Hid (L[k]'hlt = g) := ⟨_, rfl⟩
      rw [hg.out] at hs d0 d1 d2 d3
      obtain ⟨t2, x2, y2, c⟩ := g
      dsimp only at d0 d1 d2 d3
      clear hg
      cases c
      · rw [fst2_1] at hs
        go_wp2_with fail
        exact ⟨⟨k + 1, by omega, by go_num, (by apply blk_of; (repeat (first | with_reducible exact kR1 | with_reducible apply blk_drew | with_reducible apply blk_gw | with_reducible apply blk_alloc | with_reducible apply blk_set | ((with_reducible apply blk_other); focus omega))); (first | rfl | simp)), by rw [hs.out]; exact (by apply blk_of; (repeat (first | with_reducible exact kF1 | with_reducible apply blk_drew | with_reducible apply blk_gw | with_reducible apply blk_alloc | with_reducible apply blk_set | ((with_reducible apply blk_other); focus omega))); (first | rfl | simp)), Below.trans hbR (Below.mono bBel hszR)⟩, by (try go_num); simp [intOf]; (try omega)⟩
      · cases b
        · rw [fst2_2] at hs
          go_wp2_with fail
          exact ⟨⟨k + 1, by omega, by go_num, (by apply blk_of; (repeat (first | with_reducible exact kR1 | with_reducible apply blk_drew | with_reducible apply blk_gw | with_reducible apply blk_alloc | with_reducible apply blk_set | ((with_reducible apply blk_other); focus omega))); (first | rfl | simp)), by rw [hs.out]; exact (by apply blk_of; (repeat (first | with_reducible exact kF1 | with_reducible apply blk_drew | with_reducible apply blk_gw | with_reducible apply blk_alloc | with_reducible apply blk_set | ((with_reducible apply blk_other); focus omega))); (first | rfl | simp)), bBel⟩, by (try go_num); simp [intOf]; (try omega)⟩
        · by_cases c1 : t2 < t
          · rw [fst2_3 c1] at hs
            go_wp2_with fail
            exact ⟨⟨k + 1, by omega, by go_num, (by apply blk_of; (repeat (first | with_reducible exact kR1 | with_reducible apply blk_drew | with_reducible apply blk_gw | with_reducible apply blk_alloc | with_reducible apply blk_set | ((with_reducible apply blk_other); focus omega))); (first | rfl | simp)), by rw [hs.out]; exact (by apply blk_of; (repeat (first | with_reducible exact kF1 | with_reducible apply blk_drew | with_reducible apply blk_gw | with_reducible apply blk_alloc | with_reducible apply blk_set | ((with_reducible apply blk_other); focus omega))); (first | rfl | simp)), bBel⟩, by (try go_num); simp [intOf]; (try omega)⟩
          · rw [fst2_4 c1] at hs
            go_wp2_with fail
            exact ⟨⟨k + 1, by omega, by go_num, (by apply blk_of; (repeat (first | with_reducible exact kR1 | with_reducible apply blk_drew | with_reducible apply blk_gw | with_reducible apply blk_alloc | with_reducible apply blk_set | ((with_reducible apply blk_other); focus omega))); (first | rfl | simp)), by rw [hs.out]; exact (by apply blk_of; (repeat (first | with_reducible exact kF1 | with_reducible apply blk_drew | with_reducible apply blk_gw | with_reducible apply blk_alloc | with_reducible apply blk_set | ((with_reducible apply blk_other); focus omega))); (first | rfl | simp)), bBel⟩, by (try go_num); simp [intOf]; (try omega)⟩
    · obtain rfl : k = L.length := by omega
      have j1 : ¬ (L.length : Int) < (L.length : Int) := by omega
      go_wp2_with fail
      refine post_named ?_
      intro Z hZ
      have kZ : blk Z w.heap.size #[.int .i64 t, .int .i64 x, .int .i64 y, .bool b] 55 := by rw [hZ]; exact (by apply blk_of; (repeat (first | with_reducible exact kR1 | with_reducible apply blk_drew | with_reducible apply blk_gw | with_reducible apply blk_alloc | with_reducible apply blk_set | ((with_reducible apply blk_other); focus omega))); (first | rfl | simp))
      have hbZ : Below w.heap.size w Z := by rw [hZ]; exact bBel
      clear hZ
      have okZ := blk_older kZ
      have ckZ_0 : _ = some _ := blk_cell kZ 0
      have ckZ_1 : _ = some _ := blk_cell kZ 1
      have ckZ_2 : _ = some _ := blk_cell kZ 2
      have ckZ_3 : _ = some _ := blk_cell kZ 3
      have fkZ_0 := blk_free kZ 0
      have fkZ_1 := blk_free kZ 1
      have fkZ_2 := blk_free kZ 2
      have fkZ_3 := blk_free kZ 3
      refine bodyPost_ret (v := .agg #[.int .i64 t, .int .i64 x, .int .i64 y, .bool b]) (by simp [results, Tryz.results34, go_sem, ckZ_0, ckZ_1, ckZ_2, ckZ_3]) rfl ⟨by rw [hf.out], hbZ⟩

end Go.Proofs.YtpdhfhcfjdnlpaaGreat
