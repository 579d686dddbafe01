/- What the statements of chapter 7 say of the encoding of integers: what was written is read back; what is read has one encoding. No program is imported. -/
import Derived.Test.YtgpcldhgkaddeaaBy
set_option linter.unusedVariables false
namespace Go.Proofs.Ytgpcldhgkaddeaa.By
open Go

theorem dig_head : ∀ m : Nat, m ≠ 0 → ∃ x r, dig m = x :: r ∧ 0 < x := by
  intro m
  induction m using Nat.strongRecOn with
  | _ m ih =>
    intro h
    rw [dig_pos h]
    by_cases h0 : m / 256 = 0
    · rw [h0, dig_zero]
      exact ⟨((m % 256 : Nat) : Int), [], rfl, by omega⟩
    · obtain ⟨x, r, e, hx⟩ := ih (m / 256) (by omega) h0
      exact ⟨x, r ++ [((m % 256 : Nat) : Int)], by rw [e]; rfl, hx⟩
theorem dig_nil {m : Nat} (h : (dig m).length = 0) : m = 0 := by
  false_or_by_contra
  rename_i h0
  obtain ⟨x, r, e, _⟩ := dig_head m h0
  rw [e] at h; simp at h
/-- Digits without a leading zero are the digits of their number. -/
theorem dig_und {ds : List Int} (hB : isB ds) (h : 0 < ds.length → 0 < ds.getD 0 0) : ∀ k, k ≤ ds.length → dig (und (ds.take k)) = ds.take k
  | 0, _ => by simp [und, dig_zero]
  | k + 1, hk => by
    have hk' : k < ds.length := by omega
    have h0 : 0 < ds[0]'(by omega) := by have := h (by omega); simpa [show 0 < ds.length by omega] using this
    obtain ⟨x0, x1⟩ := hB _ (List.getElem_mem hk')
    have hne : und (ds.take (k + 1)) ≠ 0 := by have := und_first (by omega) h0 (k + 1) (by omega) hk; omega
    rw [dig_pos hne, und_take_succ hk']
    rw [show (und (ds.take k) * 256 + ds[k].toNat) / 256 = und (ds.take k) from by omega, show (und (ds.take k) * 256 + ds[k].toNat) % 256 = ds[k].toNat from by omega, dig_und hB h k (by omega)]
    rw [List.take_add_one, List.getElem?_eq_getElem hk']
    simp only [Option.toList]
    congr 2; omega
theorem enc_len (n : Int) : (enc n).length = (dig n.natAbs).length + 1 := by simp [enc]
theorem rd_pos {bs : List Int} {q k : Nat} (hh : bs.getD q 0 = (k : Int)) (hk : k ≤ 8) (hs : q + 1 + k ≤ bs.length) (h1 : 0 < k → bs.getD (q + 1) 0 ≠ 0) (hm : und ((bs.drop (q + 1)).take k) ≤ 9223372036854775807) :
    rdInt bs q = (((und ((bs.drop (q + 1)).take k) : Nat) : Int), (q : Int) + 1 + k, 0) := by
  have n16 : ¬ (16 : Int) ≤ k := by omega
  unfold rdInt
  rw [if_neg (by omega), if_neg (by omega)]
  simp only [Int.toNat_natCast, hh, if_neg n16]
  rw [if_neg (by omega), if_neg (by omega), if_neg (fun h => by
    rcases h with ⟨g1, g2⟩ | ⟨_, g2⟩ | ⟨g1, _⟩
    · exact h1 (by omega) g2
    · omega
    · omega)]
theorem rd_neg {bs : List Int} {q k : Nat} (hh : bs.getD q 0 = (k : Int) + 16) (hk0 : 1 ≤ k) (hk : k ≤ 8) (hs : q + 1 + k ≤ bs.length) (h1 : bs.getD (q + 1) 0 ≠ 0) (hm : und ((bs.drop (q + 1)).take k) ≤ 9223372036854775808) :
    rdInt bs q = (-((und ((bs.drop (q + 1)).take k) : Nat) : Int), (q : Int) + 1 + k, 0) := by
  have y16 : (16 : Int) ≤ (k : Int) + 16 := by omega
  unfold rdInt
  rw [if_neg (by omega), if_neg (by omega)]
  simp only [Int.toNat_natCast, hh, if_pos y16]
  rw [show (k : Int) + 16 - 16 = k from by omega, Int.toNat_natCast]
  rw [if_neg (by omega), if_neg (by omega), if_neg (fun h => by
    rcases h with ⟨g1, g2⟩ | ⟨g1, _⟩ | ⟨_, g2⟩
    · exact h1 g2
    · omega
    · omega)]
/-- How a reading without an error came about. -/
theorem rd_ok {bs : List Int} {p n to : Int} (hB : isB bs) (h : rdInt bs p = (n, to, 0)) : ∃ q k : Nat, p = q ∧ k ≤ 8 ∧ q + 1 + k ≤ bs.length ∧ (0 < k → bs.getD (q + 1) 0 ≠ 0) ∧ to = (q : Int) + 1 + k ∧
    ((bs.getD q 0 = (k : Int) ∧ n = ((und ((bs.drop (q + 1)).take k) : Nat) : Int) ∧ und ((bs.drop (q + 1)).take k) ≤ 9223372036854775807) ∨
     (bs.getD q 0 = (k : Int) + 16 ∧ 1 ≤ k ∧ n = -((und ((bs.drop (q + 1)).take k) : Nat) : Int) ∧ und ((bs.drop (q + 1)).take k) ≤ 9223372036854775808)) := by
  unfold rdInt at h
  split at h
  · simp at h
  split at h
  · simp at h
  obtain ⟨q, rfl⟩ : ∃ q : Nat, p = q := ⟨p.toNat, by omega⟩
  have hq : q < bs.length := by omega
  have hb := hB _ (List.getElem_mem hq)
  have hg : bs.getD q 0 = bs[q] := by simp [hq]
  simp only [Int.toNat_natCast] at h
  rw [hg] at h
  generalize bs[q] = v at *
  by_cases h16 : 16 ≤ v
  · simp only [if_pos h16] at h
    split at h
    · simp at h
    split at h
    · simp at h
    split at h
    · simp at h
    simp only [Prod.mk.injEq] at h
    obtain ⟨rfl, rfl, -⟩ := h
    refine ⟨q, (v - 16).toNat, rfl, by omega, by omega, fun h0 h2 => ?_, by omega, .inr ⟨by rw [hg]; omega, by omega, rfl, by omega⟩⟩
    rename_i h3
    exact h3 (.inl ⟨by omega, h2⟩)
  · simp only [if_neg h16] at h
    split at h
    · simp at h
    split at h
    · simp at h
    split at h
    · simp at h
    simp only [Prod.mk.injEq] at h
    obtain ⟨rfl, rfl, -⟩ := h
    refine ⟨q, v.toNat, rfl, by omega, by omega, fun h0 h2 => ?_, by omega, .inl ⟨by rw [hg]; omega, rfl, by omega⟩⟩
    rename_i h3
    exact h3 (.inl ⟨by omega, h2⟩)

/-- What was written is read back, whatever stands around it. -/
theorem rd_enc {n : Int} (h0 : -9223372036854775808 ≤ n) (h1 : n ≤ 9223372036854775807) (pre more : List Int) : rdInt (pre ++ (enc n ++ more)) pre.length = (n, (pre.length : Int) + (enc n).length, 0) := by
  have h8 := dig8 h0 h1
  have hu := und_dig n.natAbs
  have hh := dig_head n.natAbs
  have hz := @dig_nil n.natAbs
  have he : enc n = hdr n :: dig n.natAbs := rfl
  have hlen := enc_len n
  have hlb : (pre ++ (enc n ++ more)).length = pre.length + 1 + (dig n.natAbs).length + more.length := by simp [he] <;> omega
  have hget : (pre ++ (enc n ++ more)).getD pre.length 0 = hdr n := by simp [he]
  have hdrop : (pre ++ (enc n ++ more)).drop (pre.length + 1) = dig n.natAbs ++ more := by
    rw [show pre ++ (enc n ++ more) = (pre ++ [hdr n]) ++ (dig n.natAbs ++ more) from by simp [he], show pre.length + 1 = (pre ++ [hdr n]).length from by simp]
    exact List.drop_left
  have htake : ((pre ++ (enc n ++ more)).drop (pre.length + 1)).take (dig n.natAbs).length = dig n.natAbs := by rw [hdrop]; exact List.take_left
  have hnext : 0 < (dig n.natAbs).length → (pre ++ (enc n ++ more)).getD (pre.length + 1) 0 ≠ 0 := fun h => by
    have e : (pre ++ (enc n ++ more))[pre.length + 1]? = (dig n.natAbs ++ more)[0]? := by rw [← hdrop, List.getElem?_drop]
    obtain ⟨x, r, e2, hx⟩ := hh (fun k => by rw [k, dig_zero] at h; simp at h)
    rw [List.getD_eq_getElem?_getD, e, e2]
    show x ≠ 0
    omega
  clear hh
  by_cases hn : n < 0
  · have hd1 : 1 ≤ (dig n.natAbs).length := by
      rcases Nat.eq_zero_or_pos (dig n.natAbs).length with h | h
      · have := hz h; omega
      · exact h
    rw [rd_neg (k := (dig n.natAbs).length) (by rw [hget]; unfold hdr; rw [if_pos hn]) hd1 h8 (by omega) (hnext hd1) (by rw [htake, hu]; omega), htake, hu, hlen]
    simp only [Prod.mk.injEq, and_true]
    omega
  · rw [rd_pos (k := (dig n.natAbs).length) (by rw [hget]; unfold hdr; rw [if_neg hn]; omega) h8 (by omega) hnext (by rw [htake, hu]; omega), htake, hu, hlen]
    simp only [Prod.mk.injEq, and_true]
    omega
/-- What is read has one encoding. -/
theorem rd_unique {bs : List Int} {p n to : Int} (hB : isB bs) (h : rdInt bs p = (n, to, 0)) : 0 ≤ p ∧ p < to ∧ to ≤ bs.length ∧ (-9223372036854775808 ≤ n ∧ n ≤ 9223372036854775807) ∧ bs.take p.toNat ++ enc n = bs.take to.toNat := by
  obtain ⟨q, k, rfl, hk, hs, hf, rfl, hc⟩ := rd_ok hB h
  have hdB : isB (bs.drop (q + 1)) := fun y hy => hB y (List.mem_of_mem_drop hy)
  have hdl : (bs.drop (q + 1)).length = bs.length - (q + 1) := List.length_drop
  have htl : ((bs.drop (q + 1)).take k).length = k := by rw [List.length_take]; omega
  have hpos : 0 < ((bs.drop (q + 1)).take k).length → 0 < ((bs.drop (q + 1)).take k).getD 0 0 := fun h0 => by
    have hk0 : 0 < k := by omega
    have hql : q + 1 < bs.length := by omega
    have g1 := hf hk0
    have g2 := (hB _ (List.getElem_mem hql)).1
    have e : ((bs.drop (q + 1)).take k).getD 0 0 = bs[q + 1] := by
      rw [List.getD_eq_getElem?_getD, List.getElem?_take, if_pos hk0, List.getElem?_drop]; simp [hql]
    have e2 : bs.getD (q + 1) 0 = bs[q + 1] := by simp [hql]
    rw [e]; rw [e2] at g1; omega
  have hdig : dig (und ((bs.drop (q + 1)).take k)) = (bs.drop (q + 1)).take k := by
    have := dig_und (ds := (bs.drop (q + 1)).take k) (fun y hy => hdB y (List.mem_of_mem_take hy)) hpos ((bs.drop (q + 1)).take k).length (Nat.le_refl _)
    rwa [List.take_length] at this
  have hq : q < bs.length := by omega
  have hg : bs.getD q 0 = bs[q] := by simp [hq]
  have hsplit : bs.take (q + 1 + k) = bs.take q ++ (bs[q] :: (bs.drop (q + 1)).take k) := by
    rw [List.take_add, List.take_add_one, List.getElem?_eq_getElem hq]; simp only [Option.toList, List.append_assoc, List.singleton_append]
  have key : ∀ m : Int, m.natAbs = und ((bs.drop (q + 1)).take k) → bs.getD q 0 = (k : Int) + (if m < 0 then 16 else 0) → bs.take q ++ enc m = bs.take (q + 1 + k) := fun m h1 h2 => by
    rw [hsplit]; unfold enc hdr
    rw [h1, hdig, htl, ← h2, hg]
  have tn : ((q : Int) + 1 + k).toNat = q + 1 + k := by omega
  rw [Int.toNat_natCast, tn]
  rcases hc with ⟨h1, rfl, h3⟩ | ⟨h1, h2, rfl, h4⟩
  · exact ⟨by omega, by omega, by omega, by omega, key _ (by omega) (by rw [h1, if_neg (by omega)]; omega)⟩
  · have hne : 1 ≤ und ((bs.drop (q + 1)).take k) := by
      have := und_first (ds := (bs.drop (q + 1)).take k) (by omega) (by
        have h9 := hpos (by omega)
        rw [List.getD_eq_getElem?_getD, List.getElem?_eq_getElem (by omega)] at h9
        exact h9) k h2 (by omega)
      rwa [show ((bs.drop (q + 1)).take k).take k = (bs.drop (q + 1)).take k from by rw [List.take_take, Nat.min_self]] at this
    exact ⟨by omega, by omega, by omega, by omega, key _ (by omega) (by rw [h1, if_pos (by omega)])⟩

theorem rdLen_ok {bs : List Int} {p most n to : Int} (h : rdLen bs p most = (n, to, 0)) : rdInt bs p = (n, to, 0) ∧ 0 ≤ n ∧ n ≤ max most 0 := by
  unfold rdLen at h
  generalize rdInt bs p = r at *
  obtain ⟨a, b, c⟩ := r
  dsimp only at h
  by_cases h1 : c = 0
  · subst h1
    rw [if_neg (by simp)] at h
    by_cases h2 : a < 0
    · rw [if_pos h2] at h; simp at h
    · rw [if_neg h2] at h
      by_cases h3 : max most 0 < a
      · rw [if_pos h3] at h; simp at h
      · rw [if_neg h3] at h
        simp only [Prod.mk.injEq, and_true] at h
        obtain ⟨rfl, rfl⟩ := h
        exact ⟨rfl, by omega, by omega⟩
  · rw [if_pos h1] at h
    simp only [Prod.mk.injEq] at h
    exact absurd h.2.2 h1
/-- A length that was read stands within the bytes. -/
theorem rdLen_in {bs : List Int} {p most n to : Int} (hB : isB bs) (h : rdLen bs p most = (n, to, 0)) : 0 ≤ to ∧ to ≤ bs.length ∧ 0 ≤ n ∧ n ≤ 9223372036854775807 := by
  obtain ⟨h1, h2, _⟩ := rdLen_ok h
  obtain ⟨g1, g2, g3, g4, _⟩ := rd_unique hB h1
  exact ⟨by omega, g3, h2, g4.2⟩

end Go.Proofs.Ytgpcldhgkaddeaa.By
