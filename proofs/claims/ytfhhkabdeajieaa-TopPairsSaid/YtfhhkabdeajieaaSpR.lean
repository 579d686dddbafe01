/- Chapter 21: own rows of entries and pairs as run equations: elements, slices of them. -/
import Derived.Test.YtfhhkabdeajieaaSpC
import Derived.Laws.Slices
set_option linter.unusedVariables false
set_option linter.unusedSimpArgs false
namespace Go.Proofs.Ytfhhkabdeajieaa
open Go.RowKit Fx

theorem addN21 (b o k : Nat) : Addr.add ⟨b, o, none⟩ k = ⟨b, o + k, none⟩ := by
  unfold Addr.add; split
  · rename_i hk; rw [hk]; rfl
  · rfl
section
variable {P : Program} {SL E : TypeId} {w : World} {B sz n : Nat} {v : Value} {xs : List Value}
theorem sized21 {i : TypeInfo} (hi : P.info? E = some i) (hs : i.size = sz) (W : World) : (sizeOf E).run P W = .ok sz W := by
  subst hs
  simp [sizeOf, typeInfo, hi]
theorem own_at21 {g cap : Nat} {cur : Array Value} (hg : w.heap[g]? = some (.cells cur E (0, 0))) (k : Nat) : w.cell? ⟨g, k, none⟩ = cur[k]? := cell_of_row w g k cur E (0, 0) hg
theorem own_lo21 (hu : P.underlying SL = some (.slice E)) {i : TypeInfo} (hi : P.info? E = some i) (hs : i.size = sz) (h : w.ownsRow B E sz v n xs) (k : Nat) (hk : k ≤ n) (j : Int) (hj : j = (k : Int)) : ∃ A' c', (∀ W, (Instr.slice SL v (some (.int .i64 j)) none none).run P W = .ok (.slice A' (n - k) c') W) ∧ (∀ W, (Instr.sliceAt SL v (some (.int .i64 j)) none none).run P W = .ok (.slice A' (n - k) c') W) ∧ (A' = none → c' = 0) ∧ n - k ≤ c' ∧ Cs w A' (xs.drop (k * sz)) := by
  subst hj
  have hu' : P.underlying SL = some (.slice (P.elem SL)) := by rw [hu]; simp [Program.elem, hu]
  have he : P.elem SL = E := by rw [hu] at hu'; simpa using hu'.symm
  have h2 : ∀ A c W, (Instr.slice SL (.slice A n c) (some (.int .i64 (k : Int))) none none).run P W = .ok (sliced A k n c sz) W := fun A c W => by
    rw [run_slice_l W SL A n c hu' .i64 (k : Int) (by omega) (by omega), he, sized21 hi hs]; simp [Result.andThen]
  obtain ⟨h1, ⟨rfl, rfl⟩ | ⟨g, cap, cur, rfl, hb, hg, hnc, hm, hsz, htk⟩⟩ := h
  · obtain rfl : k = 0 := by omega
    have h3 := h2 none 0
    refine ⟨none, 0, fun W => by rw [h3]; rfl, fun W => by rw [run_sliceAt_slice W SL _ _ _ _ hu', h3]; rfl, fun _ => rfl, by omega, .inl ?_⟩
    simp at h1; simp [h1]
  · have h3 := h2 (some ⟨g, 0, none⟩) cap
    by_cases hck : cap = k
    · obtain rfl : k = n := by omega
      refine ⟨some ⟨g, 0, none⟩, cap - k, fun W => by rw [h3]; simp [sliced, hck], fun W => by rw [run_sliceAt_slice W SL _ _ _ _ hu', h3]; simp [sliced, hck], fun h => (by cases h), by omega, .inl ?_⟩
      rw [List.drop_of_length_le (by omega)]
    · refine ⟨some ⟨g, k * sz, none⟩, cap - k, fun W => by rw [h3]; simp [sliced, hck, addN21], fun W => by rw [run_sliceAt_slice W SL _ _ _ _ hu', h3]; simp [sliced, hck, addN21], fun h => (by cases h), by omega, .inr ⟨g, k * sz, rfl, fun j hj => ?_⟩⟩
      rw [cell_of_row w g _ cur E (0, 0) hg]
      subst htk
      have hj' := hj
      rw [List.length_drop, h1] at hj'
      rw [List.getElem_drop, List.getElem_take, Array.getElem_toList, Array.getElem?_eq_getElem]
theorem own_hi21 (hu : P.underlying SL = some (.slice E)) {i : TypeInfo} (hi : P.info? E = some i) (hs : i.size = sz) (h : w.ownsRow B E sz v n xs) (k : Nat) (hk : k ≤ n) (j : Int) (hj : j = (k : Int)) : ∃ A' c', (∀ W, (Instr.slice SL v none (some (.int .i64 j)) none).run P W = .ok (.slice A' k c') W) ∧ (∀ W, (Instr.sliceAt SL v none (some (.int .i64 j)) none).run P W = .ok (.slice A' k c') W) ∧ (A' = none → c' = 0) ∧ k ≤ c' ∧ Cs w A' (xs.take (k * sz)) := by
  subst hj
  have hu' : P.underlying SL = some (.slice (P.elem SL)) := by rw [hu]; simp [Program.elem, hu]
  have he : P.elem SL = E := by rw [hu] at hu'; simpa using hu'.symm
  have h2 : ∀ A c W, k ≤ c → (Instr.slice SL (.slice A n c) none (some (.int .i64 (k : Int))) none).run P W = .ok (sliced A 0 k c sz) W := fun A c W hc => by
    rw [run_slice_h W SL A n c hu' .i64 (k : Int) (by omega) (by omega), he, sized21 hi hs]; simp [Result.andThen]
  obtain ⟨h1, ⟨rfl, rfl⟩ | ⟨g, cap, cur, rfl, hb, hg, hnc, hm, hsz, htk⟩⟩ := h
  · obtain rfl : k = 0 := by omega
    have h3 := fun W => h2 none 0 W (Nat.le_refl _)
    refine ⟨none, 0, fun W => by rw [h3]; rfl, fun W => by rw [run_sliceAt_slice W SL _ _ _ _ hu', h3]; rfl, fun _ => rfl, by omega, .inl ?_⟩
    simp
  · have h3 := fun W => h2 (some ⟨g, 0, none⟩) cap W (by omega)
    refine ⟨some ⟨g, 0, none⟩, cap, fun W => by rw [h3]; simp [sliced, addN21], fun W => by rw [run_sliceAt_slice W SL _ _ _ _ hu', h3]; simp [sliced, addN21], fun h => (by cases h), by omega, .inr ⟨g, 0, rfl, fun j hj => ?_⟩⟩
    rw [cell_of_row w g _ cur E (0, 0) hg]
    subst htk
    rw [List.getElem_take, List.getElem_take, Array.getElem_toList, Array.getElem?_eq_getElem]
    · simp
    · rw [List.length_take, List.length_take, Array.length_toList] at hj; omega
end

theorem u_se : Try.prog.underlying 22 = some (.slice 33) := by kernel_rfl

theorem sz_se (w : World) : (sizeOf 33).run Try.prog w = .ok 5 w := by kernel_rfl

theorem u_re : Try.prog.underlying 25 = some (.slice 35) := by kernel_rfl

theorem sz_re (w : World) : (sizeOf 35).run Try.prog w = .ok 5 w := by kernel_rfl

theorem info_re : (Try.prog.info? 35).map (fun i => (i.zero, i.size, i.bytes)) = some (some (.agg #[.int .i64 0, .int .i64 0, .int .i64 0, .int .i64 0, .int .i64 0]), 5, 40) := by kernel_rfl

theorem ents_ix {SL E : TypeId} (hu : Try.prog.underlying SL = some (.slice E)) (hz : ∀ W, (sizeOf E).run Try.prog W = .ok 5 W) {w : World} {B : Nat} {v : Value} {L : Bxs} (h : w.ownsRow B E 5 v L.length (ev L)) {k : Nat} (hk : k < L.length) : ∃ g, v.ownBlock = some g ∧ (∀ W, (Instr.indexAt SL v (.int .i64 (k : Int))).run Try.prog W = .ok (.pointer (some ⟨g, k * 5, none⟩)) W) ∧ ∀ w', Below w.heap.size w w' → older g w' = true ∧ w'.cell? ⟨g, k * 5, none⟩ = some (.int .i64 L[k].1) ∧ w'.cell? ⟨g, k * 5 + 1, none⟩ = some (.int .i64 L[k].2.x0) ∧ w'.cell? ⟨g, k * 5 + 2, none⟩ = some (.int .i64 L[k].2.y0) ∧ w'.cell? ⟨g, k * 5 + 3, none⟩ = some (.int .i64 L[k].2.x1) ∧ w'.cell? ⟨g, k * 5 + 4, none⟩ = some (.int .i64 L[k].2.y1) := by
  obtain ⟨g, h1, h2, h3, h4⟩ := row_ix hu hz h hk (ev_len L)
  refine ⟨g, h2, h3, fun w' hb => ?_⟩
  have q := fun j (hj : j < 5) => (h4 j hj).trans (flat_get (c := ec) ec_len L k hk j hj)
  have a := q 0 (by decide)
  have b := q 1 (by decide)
  have c := q 2 (by decide)
  have d := q 3 (by decide)
  have e := q 4 (by decide)
  rw [Nat.add_zero] at a
  exact ⟨older_iff.2 (Nat.lt_of_lt_of_le h1 hb.size), (hb.cell (p := ⟨g, k * 5, none⟩) h1).trans a, (hb.cell (p := ⟨g, k * 5 + 1, none⟩) h1).trans b, (hb.cell (p := ⟨g, k * 5 + 2, none⟩) h1).trans c, (hb.cell (p := ⟨g, k * 5 + 3, none⟩) h1).trans d, (hb.cell (p := ⟨g, k * 5 + 4, none⟩) h1).trans e⟩

/-- The end of an own row of entries as a slice. -/
theorem ents_lo {SL E : TypeId} (hu : Try.prog.underlying SL = some (.slice E)) {i : TypeInfo} (hi : Try.prog.info? E = some i) (hs : i.size = 5) {w : World} {B : Nat} {v : Value} {L : Bxs} (h : w.ownsRow B E 5 v L.length (ev L)) (k : Nat) (hk : k ≤ L.length) (j : Int) (hj : j = (k : Int)) : ∃ A2 c2, (∀ W, (Instr.slice SL v (some (.int .i64 j)) none none).run Try.prog W = .ok (.slice A2 (L.length - k) c2) W) ∧ Ents w A2 (L.drop k) ∧ ∀ b off, A2 = some ⟨b, off, none⟩ → k < L.length → v.ownBlock = some b := by
  obtain ⟨A2, c2, h1, h2, h3, h4, h5⟩ := own_lo21 hu hi hs h k hk j hj
  have hlen : (ev L).drop (k * 5) = ev (L.drop k) := by
    have : ∀ (k : Nat) (L : Bxs), k ≤ L.length → (ev L).drop (k * 5) = ev (L.drop k) := by
      intro k
      induction k with
      | zero => intro L _; simp
      | succ k ih =>
        intro L hL
        cases L with
        | nil => simp at hL
        | cons x L =>
          have := ih L (by simpa using hL)
          rw [show (k + 1) * 5 = 5 + k * 5 by omega, ← List.drop_drop]
          simp only [ev, List.flatMap_cons] at this ⊢
          rw [List.drop_left' (ec_len x)]
          simpa using this
    exact this k L hk
  rw [hlen] at h5
  refine ⟨A2, c2, h1, ?_, ?_⟩
  · rcases h5 with h | ⟨b, off, rfl, hc⟩
    · refine .inl ?_
      have h6 : (ev (L.drop k)).length = 0 := by rw [h]; rfl
      rw [ev_len] at h6
      exact List.eq_nil_of_length_eq_zero (by omega)
    · refine .inr ⟨b, off, rfl, fun i hi => ⟨ec (L.drop k)[i], ec_len _, fun j hj => ?_, rfl⟩⟩
      have hlt : i * 5 + j < (ev (L.drop k)).length := by rw [ev_len]; omega
      have h7 := hc (i * 5 + j) hlt
      have h8 := flat_get (c := ec) ec_len (L.drop k) i hi j hj
      rw [← Nat.add_assoc] at h7
      rw [h7, ← h8]
      exact (List.getElem?_eq_getElem hlt).symm
  · rintro b off rfl hkl
    obtain ⟨_, ⟨rfl, h0⟩ | ⟨g, cap, cur, rfl, hb, hg, hnc, hm, hsz, htk⟩⟩ := id h
    · omega
    · have hu' : Try.prog.underlying SL = some (.slice (Try.prog.elem SL)) := by rw [hu]; simp [Program.elem, hu]
      have he : Try.prog.elem SL = E := by rw [hu] at hu'; simpa using hu'.symm
      have h9 := h1 w
      subst hj
      rw [run_slice_l w SL (some ⟨g, 0, none⟩) L.length cap hu' .i64 (k : Int) (by omega) (by omega), he, sized21 hi hs] at h9
      have hck : ¬ cap = k := by omega
      simp [Result.andThen, sliced, hck, addN21] at h9
      simp [Value.ownBlock, h9]

end Go.Proofs.Ytfhhkabdeajieaa
