/- Package massdata, the landed code: OfFixtures. -/
import Derived.Test.YtelmmjejgolefaaFixOC
set_option linter.unusedVariables false
namespace Go.Proofs.Ytelmmjejgolefaa
open Go.RowKit Fx

theorem fxs_all {w : World} {A : Option Addr} {fs : List Fxr} (h : Fxs w A fs) (h0 : 0 < fs.length) : ∃ b off, A = some ⟨b, off, none⟩ ∧ ∀ i (h : i < fs.length), Pts w fs[i].A fs[i].ps ∧ fs[i].ps.length ≤ fs[i].cap ∧ ∀ w', Below w.heap.size w w' → w'.cell? ⟨b, off + i * 10, none⟩ = some (.int .i64 fs[i].K) ∧ w'.cell? ⟨b, off + i * 10 + 1, none⟩ = some (.int .i64 fs[i].R) ∧ w'.cell? ⟨b, off + i * 10 + 2, none⟩ = some (.slice fs[i].A fs[i].ps.length fs[i].cap) ∧ w'.cell? ⟨b, off + i * 10 + 3, none⟩ = some (.int .i64 fs[i].D) ∧ w'.cell? ⟨b, off + i * 10 + 4, none⟩ = some (.int .i64 fs[i].F) ∧ w'.cell? ⟨b, off + i * 10 + 5, none⟩ = some (.int .i64 fs[i].E) ∧ w'.cell? ⟨b, off + i * 10 + 6, none⟩ = some (.bool fs[i].sen) ∧ w'.cell? ⟨b, off + i * 10 + 7, none⟩ = some (.int .i64 fs[i].cat) ∧ w'.cell? ⟨b, off + i * 10 + 8, none⟩ = some (.int .i64 fs[i].msk) ∧ w'.cell? ⟨b, off + i * 10 + 9, none⟩ = some (.int .i64 fs[i].grp) := by
  rcases h with h | ⟨b, off, rfl, hc⟩
  · rw [h] at h0; simp at h0
  · refine ⟨b, off, rfl, fun i hi => ?_⟩
    obtain ⟨cs, _, k, rfl, hp, _, hle, _⟩ := hc i hi
    refine ⟨hp, hle, fun w' hb => ?_⟩
    have k0 := k 0 (by decide)
    have hlt := World.block_lt_of_cell? w ⟨b, off + i * 10 + 0, none⟩ (show _ = some (Value.int .i64 fs[i].K) from k0)
    exact ⟨(hb.cell (p := ⟨b, off + i * 10 + 0, none⟩) hlt).trans k0, (hb.cell (p := ⟨b, off + i * 10 + 1, none⟩) hlt).trans (k 1 (by decide)), (hb.cell (p := ⟨b, off + i * 10 + 2, none⟩) hlt).trans (k 2 (by decide)), (hb.cell (p := ⟨b, off + i * 10 + 3, none⟩) hlt).trans (k 3 (by decide)), (hb.cell (p := ⟨b, off + i * 10 + 4, none⟩) hlt).trans (k 4 (by decide)), (hb.cell (p := ⟨b, off + i * 10 + 5, none⟩) hlt).trans (k 5 (by decide)), (hb.cell (p := ⟨b, off + i * 10 + 6, none⟩) hlt).trans (k 6 (by decide)), (hb.cell (p := ⟨b, off + i * 10 + 7, none⟩) hlt).trans (k 7 (by decide)), (hb.cell (p := ⟨b, off + i * 10 + 8, none⟩) hlt).trans (k 8 (by decide)), (hb.cell (p := ⟨b, off + i * 10 + 9, none⟩) hlt).trans (k 9 (by decide))⟩

set_option maxRecDepth 100000 in
set_option maxHeartbeats 16000000 in
theorem yoff_b (A : Option Addr) (cap : Nat) (fs : List Fxr) (hl : fs.length ≤ 1000000) (hv : ∀ f ∈ fs, f.ps.length ≤ 1000000) (w : World) (ha : Fxs w A fs) : Calls Try.prog 14 #[.slice A fs.length cap] w fun e w' => e = .returned (.agg #[.int .i64 (ofF fs).m, .int .i64 (ofF fs).x, .int .i64 (ofF fs).y, .int .i64 (ofF fs).i]) ∧ Below w.heap.size w w' := by
  obtain ⟨i0, hi, hz0, hz1, hz2⟩ := info_parts info_md
  by_cases h4 : 4 < fs.length
  focus
    have e : ofF fs = Md.zero := if_pos h4
    have i4 : (4 : Int) < (fs.length : Int) := by omega
    rw [e]
    clear e h4
    go_enter Try.func14, Try.ntmps14
    go_wp2_with fail
    refine post_named ?_
    intro Z hZ
    have kZ : blk Z w.heap.size #[.int .i64 0, .int .i64 0, .int .i64 0, .int .i64 0] 30 := by rw [hZ]; exact (by repeat (first | with_reducible exact blk_new _ _ _ | ((with_reducible refine blk_at ?_); (simp; done)) | with_reducible apply blk_alloc | with_reducible apply blk_gw | with_reducible apply blk_drew))
    have hbZ : Below w.heap.size w Z := by rw [hZ]; exact (by repeat (first | with_reducible exact Below.refl _ _ | with_reducible assumption | refine bgw ?_ (by first | (simp; done) | (simp; omega) | omega) _ | refine Below.setCell ?_ (by first | exact Nat.le_of_not_lt (by assumption) | (simp; done) | (simp; omega) | omega) _ | refine Below.alloc ?_ (by first | (simp; done) | (simp; omega) | omega) _ | refine Below.drew ?_))
    clear hZ
    have okZ := blk_older kZ
    have ckZ_0 : _ = some _ := blk_cell kZ 0
    have ckZ_1 : _ = some _ := blk_cell kZ 1
    have ckZ_2 : _ = some _ := blk_cell kZ 2
    have ckZ_3 : _ = some _ := blk_cell kZ 3
    have fkZ_0 := blk_free kZ 0
    have fkZ_1 := blk_free kZ 1
    have fkZ_2 := blk_free kZ 2
    have fkZ_3 := blk_free kZ 3
    exact bodyPost_ret (v := .agg #[.int .i64 0, .int .i64 0, .int .i64 0, .int .i64 0]) (by simp [results, Try.results14, go_sem, ckZ_0, ckZ_1, ckZ_2, ckZ_3]) rfl ⟨rfl, hbZ⟩
  have i4 : ¬ (4 : Int) < (fs.length : Int) := by omega
  have e : ofF fs = comb (prt fs) := if_neg h4
  rw [e]
  have cC := fun (A1 : Option Addr) (c1 : Nat) w' h => ycomb_b A1 c1 (prt fs) (by have := prt_len fs fs.length; rw [List.take_length] at this; omega) w' h
  have hpt : ∀ k (h : k < fs.length), Hid (prt (fs.take (k + 1)) = if fs[k].sen then prt (fs.take k) else prt (fs.take k) ++ [ofS fs[k].K fs[k].R fs[k].ps fs[k].D]) := fun k h => prt_take h
  have hpl := prt_len fs
  clear e
  go_enter Try.func14, Try.ntmps14
  go_wp2_with fail
  refine wp_named ?_
  intro W hW
  have kR : blk W w.heap.size #[.int .i64 0, .int .i64 0, .int .i64 0, .int .i64 0] 30 := by rw [hW]; exact (by repeat (first | with_reducible exact blk_new _ _ _ | ((with_reducible refine blk_at ?_); (simp; done)) | with_reducible apply blk_alloc | with_reducible apply blk_gw | with_reducible apply blk_drew))
  have hbW : Below w.heap.size w W := by rw [hW]; exact (by repeat (first | with_reducible exact Below.refl _ _ | with_reducible assumption | refine bgw ?_ (by first | (simp; done) | (simp; omega) | omega) _ | refine Below.setCell ?_ (by first | exact Nat.le_of_not_lt (by assumption) | (simp; done) | (simp; omega) | omega) _ | refine Below.alloc ?_ (by first | (simp; done) | (simp; omega) | omega) _ | refine Below.drew ?_))
  clear hW
  have hszW := hbW.size
  have hF : Fxs W A fs := Fxs.to ha hbW
  go_loopw [3, 12] (fun o i wr => ∃ (k n : Nat), k ≤ fs.length ∧ i = .int .i64 (k : Int) ∧ wr.ownsRow W.heap.size 30 4 o n ((prt (fs.take k)).flatMap mdc) ∧ n ≤ k ∧ Below W.heap.size W wr)
    (fun _ i _ => (fs.length - intOf i).toNat)
  case atStart => exact ⟨0, 0, by omega, rfl, World.ownsRow_nil _ _ _ 4, by omega, Below.refl _ _⟩
  case round =>
    obtain ⟨k, n, hk, rfl, hown, hnk, hbR⟩ := hrel
    have hszR := hbR.size
    have hbWR : Below w.heap.size w wr := Below.trans hbW (hbR.mono hszW)
    have kR1 := blk_to kR hbR
    have okR1 := blk_older kR1
    have ckR1_0 : _ = some _ := blk_cell kR1 0
    have ckR1_1 : _ = some _ := blk_cell kR1 1
    have ckR1_2 : _ = some _ := blk_cell kR1 2
    have ckR1_3 : _ = some _ := blk_cell kR1 3
    have fkR1_0 := blk_free kR1 0
    have fkR1_1 := blk_free kR1 1
    have fkR1_2 := blk_free kR1 2
    have fkR1_3 := blk_free kR1 3
    by_cases hlt : k < fs.length
    · have j0 : (0 : Int) ≤ (k : Int) := by omega
      have j1 : (k : Int) < (fs.length : Int) := by omega
      obtain ⟨b2, off2, hA2, hc2⟩ := fxs_all hF (by omega)
      subst hA2
      obtain ⟨hP, hck, hc3⟩ := hc2 k hlt
      obtain ⟨d0, d1, d2, d3, d4, d5, d6, d7, d8, d9⟩ := hc3 _ hbR
      have od := older_of_cell d0
      have hs := hpt k hlt
      have hpk := hpl (k + 1)
      have hvk := hv _ (List.getElem_mem hlt)
      clear hc2 hc3 hpt hv cC
      generalize fs[k].K = K at *
      generalize fs[k].R = R at *
      generalize fs[k].A = SA at *
      generalize fs[k].cap = scap at *
      generalize fs[k].ps = ps at *
      generalize fs[k].D = D at *
      generalize fs[k].sen = sen at *
      generalize fs[k].F = F at *
      generalize fs[k].E = E at *
      generalize fs[k].cat = cat at *
      generalize fs[k].msk = msk at *
      generalize fs[k].grp = grp at *
      have cO := fun w' h => yofs_b K R SA scap ps D (by omega) w' h hck
      generalize ofS K R ps D = P at *
      cases sen
      · have hs2 := hs.out
        rw [if_neg (by decide)] at hs2
        have hs3 : Hid _ := hs2
        clear hs hs2
        go_wp2_with fail
        go_wp2_with (first | (go_at_call 10; refine Calls.mono (gw_at (cO _ (Pts.to hP (by repeat (first | with_reducible exact Below.refl _ _ | with_reducible assumption | refine bgw ?_ (by first | (simp; done) | (simp; omega) | omega) _ | refine Below.setCell ?_ (by first | exact Nat.le_of_not_lt (by assumption) | (simp; done) | (simp; omega) | omega) _ | refine Below.alloc ?_ (by first | (simp; done) | (simp; omega) | omega) _ | refine Below.drew ?_))))) ?_; rintro e w1 ⟨rfl, q, rfl⟩) | (at_builtin; refine wpList_appM rfl _ _ 33 rfl W.heap.size 30 i0 (.agg #[.int .i64 0, .int .i64 0, .int .i64 0, .int .i64 0]) 4 32 Try.underlying33 hi hz0 hz1 hz2 rfl (by decide) _ _ _ rfl (owns_below hown (by repeat (first | with_reducible exact Below.refl _ _ | with_reducible assumption | refine bgw ?_ (by first | (simp; done) | (simp; omega) | omega) _ | refine Below.setCell ?_ (by first | exact Nat.le_of_not_lt (by assumption) | (simp; done) | (simp; omega) | omega) _ | refine Below.alloc ?_ (by first | (simp; done) | (simp; omega) | omega) _ | refine Below.drew ?_))) _ (mdc P) 30 rfl rfl (by show blk _ _ #[.int .i64 P.m, .int .i64 P.x, .int .i64 P.y, .int .i64 P.i] _; exact (by repeat (first | with_reducible exact blk_new _ _ _ | ((with_reducible refine blk_at ?_); (simp; done)) | with_reducible apply blk_alloc | with_reducible apply blk_gw | with_reducible apply blk_drew))) (fun u hu => by simp [mdc] at hu; rcases hu with rfl | rfl | rfl | rfl <;> rfl) (by unfold maxLen; omega) (by omega) (by first | (simp; omega) | omega) ?_; intro v' w2 hown2 hb2))
        exact ⟨⟨k + 1, n + 1, by omega, by go_num, by rw [hs3.out, List.flatMap_append]; simpa using hown2, by omega, Below.trans hbR (Below.trans (by repeat (first | with_reducible exact Below.refl _ _ | with_reducible assumption | refine bgw ?_ (by first | (simp; done) | (simp; omega) | omega) _ | refine Below.setCell ?_ (by first | exact Nat.le_of_not_lt (by assumption) | (simp; done) | (simp; omega) | omega) _ | refine Below.alloc ?_ (by first | (simp; done) | (simp; omega) | omega) _ | refine Below.drew ?_)) hb2)⟩, by (try go_num); simp [intOf]; (try omega)⟩
      · have hs2 := hs.out
        rw [if_pos (by rfl)] at hs2
        have hs3 : Hid _ := hs2
        clear hs hs2
        go_wp2_with fail
        exact ⟨⟨k + 1, n, by omega, by go_num, by rw [hs3.out]; exact owns_below hown (by repeat (first | with_reducible exact Below.refl _ _ | with_reducible assumption | refine bgw ?_ (by first | (simp; done) | (simp; omega) | omega) _ | refine Below.setCell ?_ (by first | exact Nat.le_of_not_lt (by assumption) | (simp; done) | (simp; omega) | omega) _ | refine Below.alloc ?_ (by first | (simp; done) | (simp; omega) | omega) _ | refine Below.drew ?_)), by omega, (by repeat (first | with_reducible exact Below.refl _ _ | with_reducible assumption | refine bgw ?_ (by first | (simp; done) | (simp; omega) | omega) _ | refine Below.setCell ?_ (by first | exact Nat.le_of_not_lt (by assumption) | (simp; done) | (simp; omega) | omega) _ | refine Below.alloc ?_ (by first | (simp; done) | (simp; omega) | omega) _ | refine Below.drew ?_))⟩, by (try go_num); simp [intOf]; (try omega)⟩
    · obtain rfl : k = fs.length := by omega
      have j1 : ¬ (fs.length : Int) < (fs.length : Int) := by omega
      rw [List.take_length] at hown
      obtain ⟨A5, c5, rfl, rfl, hle5, hmx5, hP5, hnil5⟩ := owns_els (c := mdc) (sz := 4) (fun f => rfl) (by decide) hown
      clear hpt hv hown hpl
      go_wp2_with (go_at_call 12; refine Calls.mono (gw_at (cC _ _ _ (Mds.to hP5 (by repeat (first | with_reducible exact Below.refl _ _ | with_reducible assumption | refine bgw ?_ (by first | (simp; done) | (simp; omega) | omega) _ | refine Below.setCell ?_ (by first | exact Nat.le_of_not_lt (by assumption) | (simp; done) | (simp; omega) | omega) _ | refine Below.alloc ?_ (by first | (simp; done) | (simp; omega) | omega) _ | refine Below.drew ?_))))) ?_; rintro e w1 ⟨rfl, q, rfl⟩)
      refine post_named ?_
      intro Z hZ
      have kZ : blk Z w.heap.size #[.int .i64 (comb (prt fs)).m, .int .i64 (comb (prt fs)).x, .int .i64 (comb (prt fs)).y, .int .i64 (comb (prt fs)).i] 30 := by rw [hZ]; exact (by apply blk_of; (repeat (first | with_reducible exact kR1 | with_reducible apply blk_drew | with_reducible apply blk_gw | with_reducible apply blk_alloc | with_reducible apply blk_set | ((with_reducible apply blk_other); focus omega))); (first | rfl | simp))
      have hbZ : Below w.heap.size w Z := by rw [hZ]; exact (by repeat (first | with_reducible exact Below.refl _ _ | with_reducible assumption | refine bgw ?_ (by first | (simp; done) | (simp; omega) | omega) _ | refine Below.setCell ?_ (by first | exact Nat.le_of_not_lt (by assumption) | (simp; done) | (simp; omega) | omega) _ | refine Below.alloc ?_ (by first | (simp; done) | (simp; omega) | omega) _ | refine Below.drew ?_))
      clear hZ
      have okZ := blk_older kZ
      have ckZ_0 : _ = some _ := blk_cell kZ 0
      have ckZ_1 : _ = some _ := blk_cell kZ 1
      have ckZ_2 : _ = some _ := blk_cell kZ 2
      have ckZ_3 : _ = some _ := blk_cell kZ 3
      have fkZ_0 := blk_free kZ 0
      have fkZ_1 := blk_free kZ 1
      have fkZ_2 := blk_free kZ 2
      have fkZ_3 := blk_free kZ 3
      exact bodyPost_ret (v := .agg #[.int .i64 (comb (prt fs)).m, .int .i64 (comb (prt fs)).x, .int .i64 (comb (prt fs)).y, .int .i64 (comb (prt fs)).i]) (by simp [results, Try.results14, go_sem, ckZ_0, ckZ_1, ckZ_2, ckZ_3]) rfl ⟨rfl, hbZ⟩

end Go.Proofs.Ytelmmjejgolefaa
