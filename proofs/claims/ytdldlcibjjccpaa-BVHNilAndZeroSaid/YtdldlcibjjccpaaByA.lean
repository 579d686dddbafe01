/- Chapter 20: the reference's model in memory. -/
import Derived.Test.YtdldlcibjjccpaaBxF
import Derived.Test.YtdldlcibjjccpaaBxC
import Derived.Laws.Slices
set_option linter.unusedVariables false
set_option linter.unusedSimpArgs false
namespace Go.Proofs.Ytdldlcibjjccpaa
open Go.RowKit Fx

/-- Where find stops in the list, and whether the ID is there. -/
structure FindAt (L : Bxs) (i : Int) (k : Nat) (f : Bool) : Prop where
  le : k ≤ L.length
  lo : ∀ j (h : j < L.length), j < k → L[j].1 < i
  hi : ∀ h : k < L.length, ¬ L[k].1 < i
  fd : f = true ↔ ∃ h : k < L.length, L[k].1 = i
theorem find_ex : ∀ (L : Bxs) (i : Int), ∃ k f, FindAt L i k f
  | [], i => ⟨0, false, ⟨by simp, fun j h => by simp at h, fun h => by simp at h, by simp⟩⟩
  | e :: L, i => by
    by_cases h : e.1 < i
    · obtain ⟨k, f, h1, h2, h3, h4⟩ := find_ex L i
      refine ⟨k + 1, f, ⟨by simpa using h1, fun j hj hk => ?_, fun hk => ?_, ?_⟩⟩
      · cases j with
        | zero => exact h
        | succ j => exact h2 j (by simpa using hj) (by omega)
      · exact h3 (by simpa using hk)
      · rw [h4]; simp
    · by_cases h' : e.1 = i
      · exact ⟨0, true, ⟨by simp, fun j _ hj => by omega, fun _ => h, by simp [h']⟩⟩
      · exact ⟨0, false, ⟨by simp, fun j _ hj => by omega, fun _ => h, by simp [h']⟩⟩
theorem FindAt.ins {L : Bxs} {i : Int} {k : Nat} {f : Bool} (h : FindAt L i k f) (x : Bx) : insL L i x = L.take k ++ (i, x) :: L.drop k := by
  obtain ⟨h1, h2, h3, -⟩ := h
  induction L generalizing k with
  | nil => simp at h1; subst h1; rfl
  | cons e L ih =>
    cases k with
    | zero =>
      have := h3 (by simp)
      simp only [List.getElem_cons_zero] at this
      unfold insL; rw [if_neg this]; rfl
    | succ k =>
      have h0 : e.1 < i := h2 0 (by simp) (by omega)
      unfold insL; rw [if_pos h0]
      rw [ih (by simpa using h1) (fun j hj hk => h2 (j + 1) (by simpa using hj) (by omega)) (fun hk => h3 (by simpa using hk))]
      rfl
theorem FindAt.lookT {L : Bxs} {i : Int} {k : Nat} (h : FindAt L i k true) (hs : Srt L) : ∃ hk : k < L.length, L[k].1 = i ∧ look L i = some L[k].2 := by
  obtain ⟨hk, he⟩ := h.fd.1 rfl
  refine ⟨hk, he, (look_some hs).2 ?_⟩
  have := List.getElem_mem hk
  rw [← he]; exact this
theorem srt_get {L : Bxs} (hs : Srt L) {j k : Nat} (hj : j < k) (hk : k < L.length) : (L[j]'(by omega)).1 < L[k].1 := List.pairwise_iff_getElem.1 hs j k (by omega) hk hj
theorem FindAt.lookF {L : Bxs} {i : Int} {k : Nat} (h : FindAt L i k false) (hs : Srt L) : look L i = none := by
  refine look_none.2 fun e he hh => ?_
  obtain ⟨j, hj, rfl⟩ := List.mem_iff_getElem.1 he
  rcases Nat.lt_trichotomy j k with hlt | heq | hgt
  · have := h.lo j hj hlt; omega
  · subst heq
    have := h.fd.2 ⟨hj, hh⟩
    cases this
  · have h1 := srt_get hs hgt hj
    have h2 := h.hi (by omega)
    omega
theorem FindAt.rem {L : Bxs} {i : Int} {k : Nat} (h : FindAt L i k true) (hs : Srt L) : remL L i = L.take k ++ L.drop (k + 1) := by
  obtain ⟨hk, he⟩ := h.fd.1 rfl
  have e1 : L = L.take k ++ L[k] :: L.drop (k + 1) := by rw [List.getElem_cons_drop, List.take_append_drop]
  have p1 : ∀ e ∈ L.take k, (!(e.1 == i)) = true := fun e hm => by
    obtain ⟨j, hj, rfl⟩ := List.mem_iff_getElem.1 hm
    simp only [List.length_take] at hj
    have := h.lo j (by omega) (by omega)
    simp only [List.getElem_take, Bool.not_eq_true', beq_eq_false_iff_ne, ne_eq]
    omega
  have p2 : ∀ e ∈ L.drop (k + 1), (!(e.1 == i)) = true := fun e hm => by
    obtain ⟨j, hj, rfl⟩ := List.mem_iff_getElem.1 hm
    simp only [List.length_drop] at hj
    have := srt_get hs (j := k) (k := k + 1 + j) (by omega) (by omega)
    simp only [List.getElem_drop, Bool.not_eq_true', beq_eq_false_iff_ne, ne_eq]
    omega
  unfold remL
  conv => lhs; rw [e1]
  rw [List.filter_append, List.filter_cons, List.filter_eq_self.2 p1, List.filter_eq_self.2 p2]
  simp [he]
theorem FindAt.bool {L : Bxs} {i : Int} {k : Nat} {f : Bool} (h : FindAt L i k f) (hs : Srt L) : (look L i).isSome = f := by
  cases f
  · rw [h.lookF hs]; rfl
  · obtain ⟨_, _, e⟩ := h.lookT hs; rw [e]; rfl

abbrev ids (L : Bxs) : List Int := L.map (·.1)
abbrev bxv (L : Bxs) : List Value := L.flatMap fun e => bxc e.2
theorem bxv_len (L : Bxs) : (bxv L).length = L.length * 4 := flat_len (c := fun e : Int × Bx => bxc e.2) (fun _ => rfl) L
theorem bxv_app (a b : Bxs) : bxv (a ++ b) = bxv a ++ bxv b := by simp [bxv]
theorem bxv_take (L : Bxs) (k : Nat) : (bxv L).take (k * 4) = bxv (L.take k) := by
  induction L generalizing k with
  | nil => simp [bxv]
  | cons e L ih =>
    cases k with
    | zero => simp [bxv]
    | succ k =>
      have := ih k
      rw [show bxv (e :: L) = bxc e.2 ++ bxv L from rfl, List.take_succ_cons, show bxv (e :: L.take k) = bxc e.2 ++ bxv (L.take k) from rfl, ← this, Nat.succ_mul, Nat.add_comm]
      rw [List.take_append, List.take_of_length_le (by simp [bxc])]
      congr 2; simp [bxc]
theorem bxv_drop (L : Bxs) (k : Nat) : (bxv L).drop (k * 4) = bxv (L.drop k) := by
  induction L generalizing k with
  | nil => simp [bxv]
  | cons e L ih =>
    cases k with
    | zero => simp [bxv]
    | succ k =>
      have := ih k
      rw [show bxv (e :: L) = bxc e.2 ++ bxv L from rfl, List.drop_succ_cons, ← this, Nat.succ_mul, Nat.add_comm]
      rw [List.drop_append, List.drop_of_length_le (by simp [bxc]), List.nil_append]
      congr 1; simp [bxc]
theorem bxv_one (L : Bxs) : ∀ u ∈ bxv L, u.oneCell' = true := fun u hu => by
  obtain ⟨f, _, hf⟩ := List.mem_flatMap.1 hu
  simp [bxc] at hf
  rcases hf with rfl | rfl | rfl | rfl <;> rfl

/-- The memory at m is the reference's model of these boxes; its blocks are among R. -/
structure RefAt (w : World) (m : Nat) (L : Bxs) (nl : Bool) (R : Nat → Prop) : Prop where
  lt : ∀ k, R k → k < w.heap.size
  sm : R m
  srt : Srt L
  len : L.length ≤ 4096
  mem : ∃ v1 v2 : Value, blk w m #[v1, v2, .bool nl] 52 ∧ w.ownsRow 0 3 1 v1 L.length (iv (ids L)) ∧ w.ownsRow 0 26 4 v2 L.length (bxv L) ∧ (∀ g, v1.ownBlock = some g → R g) ∧ ∀ g, v2.ownBlock = some g → R g
theorem RefAt.but {w w' : World} {m : Nat} {L : Bxs} {nl : Bool} {R S2 : Nat → Prop} (h : RefAt w m L nl R) (hb : But S2 w w') (hd : ∀ k, R k → ¬ S2 k) : RefAt w' m L nl R := by
  obtain ⟨h1, h2, h3, h4, v1, v2, m1, m2, m3, m4, m5⟩ := h
  exact ⟨fun k hk => Nat.lt_of_lt_of_le (h1 k hk) hb.size, h2, h3, h4, v1, v2, hb.blk m1 (hd m h2), owns_but m2 hb fun g hg => hd g (m4 g hg), owns_but m3 hb fun g hg => hd g (m5 g hg), m4, m5⟩
theorem RefAt.below {w w' : World} {m : Nat} {L : Bxs} {nl : Bool} {R : Nat → Prop} (h : RefAt w m L nl R) (hb : Below w.heap.size w w') : RefAt w' m L nl R := h.but (But.ofBelow hb fun _ => False) fun _ _ h => h
theorem new_ref {w' : World} {m : Nat} {nl : Bool} (kt : blk w' m #[.slice none 0 0, .slice none 0 0, .bool nl] 52) : RefAt w' m [] nl (fun k => k = m) :=
  ⟨fun k hk => by subst hk; exact blk_lt kt, rfl, List.Pairwise.nil, by simp, _, _, kt, World.ownsRow_nil _ _ _ _, World.ownsRow_nil _ _ _ _, fun g hg => (by cases hg), fun g hg => (by cases hg)⟩
/-- What a method that turns the model owes. -/
def TurnsR (m : Nat) (L' : Bxs) (nl : Bool) (R : Nat → Prop) (w w' : World) : Prop := ∃ R' : Nat → Prop, RefAt w' m L' nl R' ∧ But R w w' ∧ ∀ k, R' k → R k ∨ w.heap.size ≤ k
theorem TurnsR.same {m : Nat} {L : Bxs} {nl : Bool} {R : Nat → Prop} {w w' : World} (h : RefAt w m L nl R) (hb : Below w.heap.size w w') : TurnsR m L nl R w w' := ⟨R, h.below hb, But.ofBelow hb R, fun _ h => .inl h⟩

/-! Slices of own rows. -/
theorem addN (b o k : Nat) : Addr.add ⟨b, o, none⟩ k = ⟨b, o + k, none⟩ := by
  unfold Addr.add; split
  · rename_i hk; rw [hk]; rfl
  · rfl
section
variable {P : Program} {SL E : TypeId} {w : World} {B sz n : Nat} {v : Value} {xs : List Value}
theorem sized {i : TypeInfo} (hi : P.info? E = some i) (hs : i.size = sz) (W : World) : (sizeOf E).run P W = .ok sz W := by
  subst hs
  simp [sizeOf, typeInfo, hi]
theorem own_at {g cap : Nat} {cur : Array Value} (hg : w.heap[g]? = some (.cells cur E (0, 0))) (k : Nat) : w.cell? ⟨g, k, none⟩ = cur[k]? := cell_of_row w g k cur E (0, 0) hg
theorem own_lo (hu : P.underlying SL = some (.slice E)) {i : TypeInfo} (hi : P.info? E = some i) (hs : i.size = sz) (h : w.ownsRow B E sz v n xs) (k : Nat) (hk : k ≤ n) (j : Int) (hj : j = (k : Int)) : ∃ A' c', (∀ W, (Instr.slice SL v (some (.int .i64 j)) none none).run P W = .ok (.slice A' (n - k) c') W) ∧ (∀ W, (Instr.sliceAt SL v (some (.int .i64 j)) none none).run P W = .ok (.slice A' (n - k) c') W) ∧ (A' = none → c' = 0) ∧ n - k ≤ c' ∧ Cs w A' (xs.drop (k * sz)) := by
  subst hj
  have hu' : P.underlying SL = some (.slice (P.elem SL)) := by rw [hu]; simp [Program.elem, hu]
  have he : P.elem SL = E := by rw [hu] at hu'; simpa using hu'.symm
  have h2 : ∀ A c W, (Instr.slice SL (.slice A n c) (some (.int .i64 (k : Int))) none none).run P W = .ok (sliced A k n c sz) W := fun A c W => by
    rw [run_slice_l W SL A n c hu' .i64 (k : Int) (by omega) (by omega), he, sized hi hs]; simp [Result.andThen]
  obtain ⟨h1, ⟨rfl, rfl⟩ | ⟨g, cap, cur, rfl, hb, hg, hnc, hm, hsz, htk⟩⟩ := h
  · obtain rfl : k = 0 := by omega
    have h3 := h2 none 0
    refine ⟨none, 0, fun W => by rw [h3]; rfl, fun W => by rw [run_sliceAt_slice W SL _ _ _ _ hu', h3]; rfl, fun _ => rfl, by omega, .inl ?_⟩
    simp at h1; simp [h1]
  · have h3 := h2 (some ⟨g, 0, none⟩) cap
    by_cases hck : cap = k
    · obtain rfl : k = n := by omega
      refine ⟨some ⟨g, 0, none⟩, cap - k, fun W => by rw [h3]; simp [sliced, hck], fun W => by rw [run_sliceAt_slice W SL _ _ _ _ hu', h3]; simp [sliced, hck], fun h => (by cases h), by omega, .inl ?_⟩
      rw [List.drop_of_length_le (by omega)]
    · refine ⟨some ⟨g, k * sz, none⟩, cap - k, fun W => by rw [h3]; simp [sliced, hck, addN], fun W => by rw [run_sliceAt_slice W SL _ _ _ _ hu', h3]; simp [sliced, hck, addN], fun h => (by cases h), by omega, .inr ⟨g, k * sz, rfl, fun j hj => ?_⟩⟩
      rw [cell_of_row w g _ cur E (0, 0) hg]
      subst htk
      have hj' := hj
      rw [List.length_drop, h1] at hj'
      rw [List.getElem_drop, List.getElem_take, Array.getElem_toList, Array.getElem?_eq_getElem]
theorem own_hi (hu : P.underlying SL = some (.slice E)) {i : TypeInfo} (hi : P.info? E = some i) (hs : i.size = sz) (h : w.ownsRow B E sz v n xs) (k : Nat) (hk : k ≤ n) (j : Int) (hj : j = (k : Int)) : ∃ A' c', (∀ W, (Instr.slice SL v none (some (.int .i64 j)) none).run P W = .ok (.slice A' k c') W) ∧ (∀ W, (Instr.sliceAt SL v none (some (.int .i64 j)) none).run P W = .ok (.slice A' k c') W) ∧ (A' = none → c' = 0) ∧ k ≤ c' ∧ Cs w A' (xs.take (k * sz)) := by
  subst hj
  have hu' : P.underlying SL = some (.slice (P.elem SL)) := by rw [hu]; simp [Program.elem, hu]
  have he : P.elem SL = E := by rw [hu] at hu'; simpa using hu'.symm
  have h2 : ∀ A c W, k ≤ c → (Instr.slice SL (.slice A n c) none (some (.int .i64 (k : Int))) none).run P W = .ok (sliced A 0 k c sz) W := fun A c W hc => by
    rw [run_slice_h W SL A n c hu' .i64 (k : Int) (by omega) (by omega), he, sized hi hs]; simp [Result.andThen]
  obtain ⟨h1, ⟨rfl, rfl⟩ | ⟨g, cap, cur, rfl, hb, hg, hnc, hm, hsz, htk⟩⟩ := h
  · obtain rfl : k = 0 := by omega
    have h3 := fun W => h2 none 0 W (Nat.le_refl _)
    refine ⟨none, 0, fun W => by rw [h3]; rfl, fun W => by rw [run_sliceAt_slice W SL _ _ _ _ hu', h3]; rfl, fun _ => rfl, by omega, .inl ?_⟩
    simp
  · have h3 := fun W => h2 (some ⟨g, 0, none⟩) cap W (by omega)
    refine ⟨some ⟨g, 0, none⟩, cap, fun W => by rw [h3]; simp [sliced, addN], fun W => by rw [run_sliceAt_slice W SL _ _ _ _ hu', h3]; simp [sliced, addN], fun h => (by cases h), by omega, .inr ⟨g, 0, rfl, fun j hj => ?_⟩⟩
    rw [cell_of_row w g _ cur E (0, 0) hg]
    subst htk
    rw [List.getElem_take, List.getElem_take, Array.getElem_toList, Array.getElem?_eq_getElem]
    · simp
    · rw [List.length_take, List.length_take, Array.length_toList] at hj; omega
end

end Go.Proofs.Ytdldlcibjjccpaa
