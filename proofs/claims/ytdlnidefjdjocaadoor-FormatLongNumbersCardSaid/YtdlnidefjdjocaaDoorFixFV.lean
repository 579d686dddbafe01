/- Contracts of the reference of chapter 8, continued: the value of a number. -/
import Derived.Test.YtdlnidefjdjocaaDoorFixFS
set_option linter.unusedVariables false
namespace Go.Proofs.YtdlnidefjdjocaaDoor
open Go.RowKit Fm

theorem body_snoc {s : List Int} {y : Int} (h : s ≠ [] ∨ y ≠ 45) : body (s ++ [y]) = body s ++ [y] := by
  cases s with
  | nil => exact body_cons (by simpa using h)
  | cons x r =>
    by_cases hx : x = 45
    · subst hx; simp [body]
    · rw [List.cons_append, body_cons hx, body_cons hx]; rfl
theorem body_succ {bs : List Int} {k : Nat} (h : k < bs.length) (hy : 0 < k ∨ bs[k] ≠ 45) : body (bs.take (k + 1)) = body (bs.take k) ++ [bs[k]] := by
  rw [List.take_add_one, List.getElem?_eq_getElem h]
  refine body_snoc ?_
  rcases hy with hy | hy
  · left; intro e; have h1 := congrArg List.length e; rw [List.length_take, List.length_nil] at h1; omega
  · exact .inr hy
theorem body_minus {bs : List Int} (h : 0 < bs.length) (hy : bs[0] = 45) : body (bs.take 1) = [] := by
  cases bs with
  | nil => simp at h
  | cons x r => simp at hy; simp [hy, body]
theorem val_append (s : List Int) : ∀ t : List Int, val s ≤ val (s ++ t)
  | [] => by simp
  | y :: t => by
    have h1 := val_append (s ++ [y]) t
    rw [val_snoc] at h1
    rw [show s ++ y :: t = s ++ [y] ++ t from by simp]
    omega
theorem body_val {bs : List Int} : ∀ k, k ≤ bs.length → val (body (bs.take k)) ≤ val (body bs) := fun k hk => by
  obtain ⟨t, ht⟩ : ∃ t, body bs = body (bs.take k) ++ t := by
    cases bs with
    | nil => exact ⟨[], by simp [body]⟩
    | cons x r =>
      cases k with
      | zero => exact ⟨_, by simp [body]; rfl⟩
      | succ k =>
        rw [List.take_succ_cons]
        by_cases hx : x = 45
        · subst hx; exact ⟨r.drop k, by simp [body]⟩
        · rw [body_cons hx, body_cons hx]; exact ⟨r.drop k, by simp⟩
  rw [ht]; exact val_append _ _
/-- What stands in a number. -/
theorem int_at {bs : List Int} (h : isInt bs = true) {k : Nat} (hk : k < bs.length) : (bs[k] = 45 ∧ k = 0) ∨ (bs[k] ≠ 45 ∧ 48 ≤ bs[k] ∧ bs[k] ≤ 57) := by
  rcases isInt_iff.1 h with rfl | ⟨_, ha⟩
  · simp at hk; subst hk; right; simp
  · cases bs with
    | nil => simp at hk
    | cons x r =>
      by_cases hx : x = 45
      · subst hx
        rw [show body (45 :: r) = r from by simp [body]] at ha
        cases k with
        | zero => left; simp
        | succ k => right; have := isD_iff.1 (ha _ (List.getElem_mem (show k < r.length by simpa using hk))); simp; omega
      · rw [body_cons hx] at ha
        right; have := isD_iff.1 (ha _ (List.getElem_mem hk)); omega

set_option maxHeartbeats 1000000 in
theorem rval_b (bs : List Int) (L : Nat) (hI : isInt bs = true) (hB : isB bs) (hl : bs.length ≤ 1000000) (h9 : 9 ≤ L) (hL : L ≤ 4611686018427387904) (w : World) : Calls Tryd.prog 38 #[.string (strOfNums bs), .int .i64 (L : Int)] w fun e w' => e = .returned (.tuple #[.int .i64 (if L < (sval bs).natAbs then 0 else sval bs), .bool (decide (¬ L < (sval bs).natAbs))]) ∧ Below w.heap.size w w' := by
  have hab : (sval bs).natAbs = val (body bs) := by unfold sval; split <;> omega
  have hsv : sval bs = if bs.head? = some 45 then -(val (body bs) : Int) else val (body bs) := rfl
  obtain ⟨V, hV⟩ : ∃ V, val (body bs) = V := ⟨_, rfl⟩
  rw [hab, hsv, hV]
  obtain ⟨R1, hR1⟩ : ∃ R, (if L < V then 0 else if bs.head? = some 45 then -(V : Int) else (V : Int)) = R := ⟨_, rfl⟩
  obtain ⟨R2, hR2⟩ : ∃ R, decide (¬ L < V) = R := ⟨_, rfl⟩
  rw [hR1, hR2]
  have hmono : ∀ k, k ≤ bs.length → val (body (bs.take k)) ≤ V := fun k hk => hV ▸ body_val k hk
  have hend : val (body (bs.take bs.length)) = V := by rw [List.take_length, hV]
  have hat := fun k hk => int_at hI (k := k) hk
  have hhead : 0 < bs.length → (bs.head? = some 45 ↔ ∀ h : 0 < bs.length, bs[0] = 45) := fun h => by
    cases bs with
    | nil => simp at h
    | cons x r => simp
  have hpos : 0 < bs.length := by
    cases bs with
    | nil => revert hI; decide
    | cons x r => simp
  clear hab hsv hI hV
  have hsz : (strOfNums bs).size = bs.length := strOfNums_size bs
  have hix : ∀ k (h : k < (strOfNums bs).size), (((strOfNums bs)[k]'h).toNat : Int) = bs[k]'(by rw [hsz] at h; exact h) := fun k h => str_idx hB k h
  generalize strOfNums bs = T at *
  go_enter Tryd.func38, Tryd.ntmps38
  go_wp2_with fail
  go_loopw [6, 7, 8] (fun n g i wr => ∃ (k m : Nat), k ≤ bs.length ∧ m ≤ L ∧ i = .int .i64 k ∧ n = .int .i64 (m : Int) ∧ m = val (body (bs.take k)) ∧ g = .bool (decide (0 < k ∧ bs.head? = some 45)) ∧ Below w.heap.size w wr)
    (fun _ _ i _ => (bs.length - intOf i).toNat)
  case atStart => exact ⟨0, 0, by omega, by omega, rfl, rfl, by simp [body, val], by simp, (by repeat (first | with_reducible exact Below.refl _ _ | with_reducible assumption | refine bgw ?_ (by first | (simp; done) | (simp; omega) | omega) _ | refine Below.setCell ?_ (by first | exact Nat.le_of_not_lt (by assumption) | (simp; done) | (simp; omega) | omega) _ | refine Below.alloc ?_ (by first | (simp; done) | (simp; omega) | omega) _ | refine Below.drew ?_))⟩
  case round =>
    obtain ⟨k, m, hk, hm, rfl, rfl, hmv, rfl, hbw⟩ := hrel
    by_cases hlt : k < bs.length
    · have i0 : (0 : Int) ≤ (k : Int) := by omega
      have i1 : (k : Int) < (bs.length : Int) := by omega
      have hx := hix k (by omega)
      have hav := hat k hlt
      have hs := @body_succ bs k hlt
      have hmi : k = 0 → bs[k] = 45 → body (bs.take 1) = [] := fun e1 e2 => by subst e1; exact body_minus hlt e2
      have hmo := hmono (k + 1) (by omega)
      have hh0 : k = 0 → (bs.head? = some 45 ↔ bs[k] = 45) := fun e => by subst e; rw [hhead hlt]; exact ⟨fun h => h _, fun h _ => h⟩
      clear hix hat hmono
      generalize bs[k] = x at *
      rcases hav with ⟨x45, k0⟩ | ⟨x45, x0, x1⟩
      focus
        subst k0 x45
        clear hs
        have h1 := hmi rfl rfl
        have h2 := (hh0 rfl).2 rfl
        clear hmi hh0
        go_wp2_with fail
        refine ⟨⟨1, m, by omega, hm, rfl, rfl, by rw [h1, hmv]; simp [body, val], by simp [h2], (by repeat (first | with_reducible exact Below.refl _ _ | with_reducible assumption | refine bgw ?_ (by first | (simp; done) | (simp; omega) | omega) _ | refine Below.setCell ?_ (by first | exact Nat.le_of_not_lt (by assumption) | (simp; done) | (simp; omega) | omega) _ | refine Below.alloc ?_ (by first | (simp; done) | (simp; omega) | omega) _ | refine Below.drew ?_))⟩, by (try go_num); simp [intOf]; (try omega)⟩
      focus
        have hxb : (x == 45) = false := by rw [beq_eq_false_iff_ne]; exact x45
        have hs' := hs (.inr x45)
        rw [hs', val_snoc, ← hmv] at hmo
        have hbg : (decide (0 < k ∧ bs.head? = some 45)) = decide (0 < k + 1 ∧ bs.head? = some 45) := by
          by_cases hk0 : 0 < k
          · simp [hk0]
          · have e0 : k = 0 := by omega
            subst e0
            have : ¬ bs.head? = some 45 := fun e => x45 ((hh0 rfl).1 e)
            simp [this]
        have hdv : ((L : Int) - (x - 48)).tdiv 10 = ((L : Int) - (x - 48)) / 10 := Int.tdiv_eq_ediv_of_nonneg (by omega)
        rw [hs'] at hs
        clear hs hmi hh0 x45
        by_cases hov : ((L : Int) - (x - 48)) / 10 < (m : Int)
        focus
          rw [if_pos (show L < V by omega)] at hR1
          rw [show decide (¬ L < V) = false from by simp; omega] at hR2
          subst hR1 hR2
          rw [← hdv] at hov
          clear hbg hs' hmo
          go_wp2_with fail
          exact bodyPost_ret (v := .tuple #[.int .i64 0, .bool false]) (by simp [results, Tryd.results38, go_sem]) rfl ⟨rfl, (by repeat (first | with_reducible exact Below.refl _ _ | with_reducible assumption | refine bgw ?_ (by first | (simp; done) | (simp; omega) | omega) _ | refine Below.setCell ?_ (by first | exact Nat.le_of_not_lt (by assumption) | (simp; done) | (simp; omega) | omega) _ | refine Below.alloc ?_ (by first | (simp; done) | (simp; omega) | omega) _ | refine Below.drew ?_))⟩
        have hfit : 10 * (m : Int) + (x - 48) ≤ L := by omega
        rw [← hdv] at hov
        obtain ⟨M, hM⟩ : ∃ M : Nat, (M : Int) = 10 * (m : Int) + (x - 48) := ⟨(10 * (m : Int) + (x - 48)).toNat, by omega⟩
        have hM2 : M = val (body (bs.take (k + 1))) := by rw [hs', val_snoc, ← hmv]; omega
        have hmv' : Hid (m = val (body (bs.take k))) := hmv
        clear hs' hmo hmv hdv
        go_wp2_with fail
        exact ⟨⟨k + 1, M, by omega, by omega, by go_num, by rw [hM], hM2, by rw [← hbg], (by repeat (first | with_reducible exact Below.refl _ _ | with_reducible assumption | refine bgw ?_ (by first | (simp; done) | (simp; omega) | omega) _ | refine Below.setCell ?_ (by first | exact Nat.le_of_not_lt (by assumption) | (simp; done) | (simp; omega) | omega) _ | refine Below.alloc ?_ (by first | (simp; done) | (simp; omega) | omega) _ | refine Below.drew ?_))⟩, by (try go_num); simp [intOf]; (try omega)⟩
    · obtain rfl : k = bs.length := by omega
      have i1 : ¬ (bs.length : Int) < (bs.length : Int) := by omega
      rw [hend] at hmv
      subst hmv
      rw [if_neg (by omega)] at hR1
      rw [show decide (¬ L < m) = true from by simp; omega] at hR2
      subst hR2
      clear hix hat hmono hend hhead
      by_cases hg : bs.head? = some 45
      focus
        rw [if_pos hg] at hR1
        subst hR1
        rw [show decide (0 < bs.length ∧ bs.head? = some 45) = true from by simp [hpos, hg]]
        clear hg
        go_wp2_with fail
        exact bodyPost_ret (v := .tuple #[.int .i64 (-(m : Int)), .bool true]) (by simp [results, Tryd.results38, go_sem]) rfl ⟨rfl, (by repeat (first | with_reducible exact Below.refl _ _ | with_reducible assumption | refine bgw ?_ (by first | (simp; done) | (simp; omega) | omega) _ | refine Below.setCell ?_ (by first | exact Nat.le_of_not_lt (by assumption) | (simp; done) | (simp; omega) | omega) _ | refine Below.alloc ?_ (by first | (simp; done) | (simp; omega) | omega) _ | refine Below.drew ?_))⟩
      rw [if_neg hg] at hR1
      subst hR1
      rw [show decide (0 < bs.length ∧ bs.head? = some 45) = false from by simp [hg]]
      clear hg
      go_wp2_with fail
      exact bodyPost_ret (v := .tuple #[.int .i64 (m : Int), .bool true]) (by simp [results, Tryd.results38, go_sem]) rfl ⟨rfl, (by repeat (first | with_reducible exact Below.refl _ _ | with_reducible assumption | refine bgw ?_ (by first | (simp; done) | (simp; omega) | omega) _ | refine Below.setCell ?_ (by first | exact Nat.le_of_not_lt (by assumption) | (simp; done) | (simp; omega) | omega) _ | refine Below.alloc ?_ (by first | (simp; done) | (simp; omega) | omega) _ | refine Below.drew ?_))⟩

end Go.Proofs.YtdlnidefjdjocaaDoor
