/- Contracts of the reference of chapter 8, continued: fields and lines. -/
import Derived.Test.YtdlnidefjdjocaaDoorFixFW
import Derived.Test.YtdlnidefjdjocaaDoorStrs
set_option linter.unusedVariables false
namespace Go.Proofs.YtdlnidefjdjocaaDoor
open Go.RowKit Fm

theorem info_str : (Tryd.prog.info? 9).map (fun i => (i.zero, i.size, i.bytes)) = some (some (.string ByteArray.empty), 1, 16) := by kernel_rfl

set_option maxHeartbeats 2000000 in
theorem rfields_b (bs : List Int) (hB : isB bs) (hl : bs.length ≤ 1000000) (w : World) : Calls Tryd.prog 22 #[.string (strOfNums bs)] w fun e w' => (∃ v, e = .returned (.tuple #[v, .int .i64 (fields bs).2]) ∧ w'.ownsRow w.heap.size 9 1 v (fields bs).1.length (sv (strs (fields bs).1))) ∧ Below w.heap.size w w' := by
  obtain ⟨i0, hi, hz0, hz1, hz2⟩ := info_parts info_str
  by_cases hb0 : bs = []
  focus
    subst hb0
    rw [show fields [] = ([], 0) from rfl]
    have hem : (strOfNums []).toList.isEmpty = true := by rw [str_list]; rfl
    generalize strOfNums [] = T at *
    go_enter Tryd.func22, Tryd.ntmps22
    go_wp2_with fail
    exact bodyPost_ret (v := .tuple #[.slice none 0 0, .int .i64 0]) (by simp [results, Tryd.results22, go_sem]) rfl ⟨⟨_, rfl, owns_nil _ _ _⟩, (by repeat (first | with_reducible exact Below.refl _ _ | with_reducible assumption | refine bgw ?_ (by first | (simp; done) | (simp; omega) | omega) _ | refine Below.setCell ?_ (by first | exact Nat.le_of_not_lt (by assumption) | (simp; done) | (simp; omega) | omega) _ | refine Below.alloc ?_ (by first | (simp; done) | (simp; omega) | omega) _ | refine Below.drew ?_))⟩
  obtain ⟨F, hF⟩ : ∃ F, fld bs [] [] = F := ⟨_, rfl⟩
  obtain ⟨R, hR⟩ : ∃ R, fields bs = R := ⟨_, rfl⟩
  rw [hR]
  have hRs : ∀ l, F = some l → R = (l, 0) := fun l h => by rw [← hR]; unfold fields; rw [if_neg hb0, hF, h]
  have hRn : F = none → R = ([], 3) := fun h => by rw [← hR]; unfold fields; rw [if_neg hb0, hF, h]
  have hem : (strOfNums bs).toList.isEmpty = false := by rw [str_list]; cases bs with | nil => exact absurd rfl hb0 | cons x r => rfl
  have hsz : (strOfNums bs).size = bs.length := strOfNums_size bs
  have hix : ∀ k (h : k < (strOfNums bs).size), (((strOfNums bs)[k]'h).toNat : Int) = bs[k]'(by rw [hsz] at h; exact h) := fun k h => str_idx hB k h
  have hex : ∀ i k, (strOfNums bs).extract i k = strOfNums (prt bs i k) := fun i k => str_part i k
  have hF' : Hid (fld bs [] [] = F) := hF
  generalize strOfNums bs = T at *
  clear hF hR hb0
  go_enter Tryd.func22, Tryd.ntmps22
  go_wp2_with fail
  go_loopw [4, 5, 6] (fun v st i wr => ∃ (k s : Nat) (acc : List (List Int)), k ≤ bs.length + 1 ∧ s ≤ k ∧ i = .int .i64 k ∧ st = .int .i64 s ∧ wr.ownsRow w.heap.size 9 1 v acc.length (sv (strs acc)) ∧ acc.length ≤ k ∧ Hid (k ≤ bs.length → fld (bs.drop k) (prt bs s k) acc = F) ∧ Hid (bs.length < k → F = some acc) ∧ Below w.heap.size w wr)
    (fun _ _ i _ => (bs.length + 1 - intOf i).toNat)
  case atStart => exact ⟨0, 0, [], by omega, by omega, rfl, rfl, owns_nil _ _ _, by simp, fun _ => hF'.out, fun h => absurd h (by omega), (by repeat (first | with_reducible exact Below.refl _ _ | with_reducible assumption | refine bgw ?_ (by first | (simp; done) | (simp; omega) | omega) _ | refine Below.setCell ?_ (by first | exact Nat.le_of_not_lt (by assumption) | (simp; done) | (simp; omega) | omega) _ | refine Below.alloc ?_ (by first | (simp; done) | (simp; omega) | omega) _ | refine Below.drew ?_))⟩
  case round =>
    obtain ⟨k, s, acc, hk, hsk, rfl, rfl, hown, hacc, h1, h2, hbw⟩ := hrel
    have hszw := hbw.size
    by_cases hle : k ≤ bs.length
    · have i0' : (0 : Int) ≤ (k : Int) := by omega
      have s0' : (0 : Int) ≤ (s : Int) := by omega
      have s1' : (s : Int) ≤ (k : Int) := by omega
      have i1 : (k : Int) ≤ (bs.length : Int) := by omega
      have hf := h1.out hle
      have hpB := prt_isB hB s k
      have hpl := prt_length (s := bs) hsk hle
      have hxs := hex s k
      have cF : ∀ w', Calls Tryd.prog 14 #[.string (strOfNums (prt bs s k))] w' fun e w'' => e = .returned (.bool (isF (prt bs s k))) ∧ Below w'.heap.size w' w'' := fun w' => risf_b _ hpB (by omega) w'
      by_cases hlt : k < bs.length
      · have i2 : (k : Int) < (bs.length : Int) := by omega
        have hx := hix k (by omega)
        rw [drop_cons hlt] at hf
        have hps := prt_succ (s := bs) hsk hlt
        clear hix hex h1 h2 hpl
        generalize bs[k] = x at *
        by_cases h32 : x = 32
        · subst h32
          rw [fld_space] at hf
          have hs1 := prt_same bs (k + 1)
          generalize prt bs s k = cur at *
          cases hc : isF cur
          focus
            rw [hc] at cF hf
            rw [if_neg (by simp)] at hf
            obtain rfl := hRn hf.symm
            generalize strOfNums cur = U at *
            clear hf hRn hRs hps hs1 hc hF'
            go_wp2_with (go_at_call 14; refine Calls.mono (gw_at (cF _)) ?_; rintro e w1 ⟨rfl, q, rfl⟩)
            exact bodyPost_ret (v := .tuple #[.slice none 0 0, .int .i64 3]) (by simp [results, Tryd.results22, go_sem]) rfl ⟨⟨_, rfl, owns_nil _ _ _⟩, (by repeat (first | with_reducible exact Below.refl _ _ | with_reducible assumption | refine bgw ?_ (by first | (simp; done) | (simp; omega) | omega) _ | refine Below.setCell ?_ (by first | exact Nat.le_of_not_lt (by assumption) | (simp; done) | (simp; omega) | omega) _ | refine Below.alloc ?_ (by first | (simp; done) | (simp; omega) | omega) _ | refine Below.drew ?_))⟩
          rw [hc] at cF hf
          rw [if_pos rfl] at hf
          have hnew : sv (strs (acc ++ [cur])) = sv (strs acc) ++ [.string (strOfNums cur)] := by rw [strs_append, sv_append]; rfl
          generalize hU : strOfNums cur = U at *
          have hf' : Hid (k + 1 ≤ bs.length → fld (bs.drop (k + 1)) (prt bs (k + 1) (k + 1)) (acc ++ [cur]) = F) := fun _ => by rw [hs1]; exact hf
          clear hf hRn hRs hps hs1 hc hF' hU
          go_wp2_with (first
            | (go_at_call 14; refine Calls.mono (gw_at (cF _)) ?_; rintro e w1 ⟨rfl, q, rfl⟩)
            | (at_builtin; refine wpList_app1 rfl _ _ 22 rfl w.heap.size 9 i0 (.string ByteArray.empty) 16 Tryd.underlying22 hi hz0 hz1 hz2 rfl _ _ _ rfl (owns_below hown (by repeat (first | with_reducible exact Below.refl _ _ | with_reducible assumption | refine bgw ?_ (by first | (simp; done) | (simp; omega) | omega) _ | refine Below.setCell ?_ (by first | exact Nat.le_of_not_lt (by assumption) | (simp; done) | (simp; omega) | omega) _ | refine Below.alloc ?_ (by first | (simp; done) | (simp; omega) | omega) _ | refine Below.drew ?_))) _ (.string U) rfl (blk_cell (c := #[.string U]) (by repeat (first | with_reducible exact blk_new _ _ _ | ((with_reducible refine blk_at ?_); (simp; done)) | with_reducible apply blk_alloc | with_reducible apply blk_gw)) 0) rfl (by unfold maxLen; omega) (by omega) (by first | (simp; omega) | omega) ?_; intro v' w2 hown2 hb2))
          refine ⟨⟨k + 1, k + 1, acc ++ [cur], by omega, by omega, by go_num, by go_num, by rw [hnew, List.length_append]; exact hown2, by simp; omega, hf', fun h => absurd h (by omega), Below.trans (by repeat (first | with_reducible exact Below.refl _ _ | with_reducible assumption | refine bgw ?_ (by first | (simp; done) | (simp; omega) | omega) _ | refine Below.setCell ?_ (by first | exact Nat.le_of_not_lt (by assumption) | (simp; done) | (simp; omega) | omega) _ | refine Below.alloc ?_ (by first | (simp; done) | (simp; omega) | omega) _ | refine Below.drew ?_)) hb2⟩, by (try go_num); simp [intOf]; (try omega)⟩
        · rw [fld_other h32] at hf
          have h33 : (x != 32) = true := by simp [h32]
          have hf' : Hid (k + 1 ≤ bs.length → fld (bs.drop (k + 1)) (prt bs s (k + 1)) acc = F) := fun _ => by rw [hps]; exact hf
          clear hf hRn hRs hps hF' h32 hxs cF
          go_wp2_with fail
          exact ⟨⟨k + 1, s, acc, by omega, by omega, by go_num, rfl, owns_below hown (by repeat (first | with_reducible exact Below.refl _ _ | with_reducible assumption | refine bgw ?_ (by first | (simp; done) | (simp; omega) | omega) _ | refine Below.setCell ?_ (by first | exact Nat.le_of_not_lt (by assumption) | (simp; done) | (simp; omega) | omega) _ | refine Below.alloc ?_ (by first | (simp; done) | (simp; omega) | omega) _ | refine Below.drew ?_)), by omega, hf', fun h => absurd h (by omega), (by repeat (first | with_reducible exact Below.refl _ _ | with_reducible assumption | refine bgw ?_ (by first | (simp; done) | (simp; omega) | omega) _ | refine Below.setCell ?_ (by first | exact Nat.le_of_not_lt (by assumption) | (simp; done) | (simp; omega) | omega) _ | refine Below.alloc ?_ (by first | (simp; done) | (simp; omega) | omega) _ | refine Below.drew ?_))⟩, by (try go_num); simp [intOf]; (try omega)⟩
      · obtain rfl : k = bs.length := by omega
        have i2 : ¬ (bs.length : Int) < (bs.length : Int) := by omega
        rw [List.drop_length, fld_end] at hf
        clear hix hex h1 h2
        generalize prt bs s bs.length = cur at *
        cases hc : isF cur
        focus
          rw [hc] at cF hf
          rw [if_neg (by simp)] at hf
          obtain rfl := hRn hf.symm
          generalize strOfNums cur = U at *
          clear hf hRn hRs hc hF'
          go_wp2_with (go_at_call 14; refine Calls.mono (gw_at (cF _)) ?_; rintro e w1 ⟨rfl, q, rfl⟩)
          exact bodyPost_ret (v := .tuple #[.slice none 0 0, .int .i64 3]) (by simp [results, Tryd.results22, go_sem]) rfl ⟨⟨_, rfl, owns_nil _ _ _⟩, (by repeat (first | with_reducible exact Below.refl _ _ | with_reducible assumption | refine bgw ?_ (by first | (simp; done) | (simp; omega) | omega) _ | refine Below.setCell ?_ (by first | exact Nat.le_of_not_lt (by assumption) | (simp; done) | (simp; omega) | omega) _ | refine Below.alloc ?_ (by first | (simp; done) | (simp; omega) | omega) _ | refine Below.drew ?_))⟩
        rw [hc] at cF hf
        rw [if_pos rfl] at hf
        have hnew : sv (strs (acc ++ [cur])) = sv (strs acc) ++ [.string (strOfNums cur)] := by rw [strs_append, sv_append]; rfl
        generalize hU : strOfNums cur = U at *
        have hf' : Hid (bs.length < bs.length + 1 → F = some (acc ++ [cur])) := fun _ => hf.symm
        clear hf hRn hRs hc hF' hU
        go_wp2_with (first
          | (go_at_call 14; refine Calls.mono (gw_at (cF _)) ?_; rintro e w1 ⟨rfl, q, rfl⟩)
          | (at_builtin; refine wpList_app1 rfl _ _ 22 rfl w.heap.size 9 i0 (.string ByteArray.empty) 16 Tryd.underlying22 hi hz0 hz1 hz2 rfl _ _ _ rfl (owns_below hown (by repeat (first | with_reducible exact Below.refl _ _ | with_reducible assumption | refine bgw ?_ (by first | (simp; done) | (simp; omega) | omega) _ | refine Below.setCell ?_ (by first | exact Nat.le_of_not_lt (by assumption) | (simp; done) | (simp; omega) | omega) _ | refine Below.alloc ?_ (by first | (simp; done) | (simp; omega) | omega) _ | refine Below.drew ?_))) _ (.string U) rfl (blk_cell (c := #[.string U]) (by repeat (first | with_reducible exact blk_new _ _ _ | ((with_reducible refine blk_at ?_); (simp; done)) | with_reducible apply blk_alloc | with_reducible apply blk_gw)) 0) rfl (by unfold maxLen; omega) (by omega) (by first | (simp; omega) | omega) ?_; intro v' w2 hown2 hb2))
        refine ⟨⟨bs.length + 1, bs.length + 1, acc ++ [cur], by omega, by omega, by go_num, by go_num, by rw [hnew, List.length_append]; exact hown2, by simp; omega, fun h => absurd h (by omega), hf', Below.trans (by repeat (first | with_reducible exact Below.refl _ _ | with_reducible assumption | refine bgw ?_ (by first | (simp; done) | (simp; omega) | omega) _ | refine Below.setCell ?_ (by first | exact Nat.le_of_not_lt (by assumption) | (simp; done) | (simp; omega) | omega) _ | refine Below.alloc ?_ (by first | (simp; done) | (simp; omega) | omega) _ | refine Below.drew ?_)) hb2⟩, by (try go_num); simp [intOf]; (try omega)⟩
    · obtain rfl : k = bs.length + 1 := by omega
      have i1 : ¬ (bs.length : Int) + 1 ≤ (bs.length : Int) := by omega
      obtain rfl := hRs _ (h2.out (by omega))
      clear hix hex h1 h2 hRn hRs hF'
      go_wp2_with fail
      exact bodyPost_ret (v := .tuple #[_, .int .i64 0]) (by simp [results, Tryd.results22, go_sem]) rfl ⟨⟨_, rfl, owns_below hown (by repeat (first | with_reducible exact Below.refl _ _ | with_reducible assumption | refine bgw ?_ (by first | (simp; done) | (simp; omega) | omega) _ | refine Below.setCell ?_ (by first | exact Nat.le_of_not_lt (by assumption) | (simp; done) | (simp; omega) | omega) _ | refine Below.alloc ?_ (by first | (simp; done) | (simp; omega) | omega) _ | refine Below.drew ?_))⟩, (by repeat (first | with_reducible exact Below.refl _ _ | with_reducible assumption | refine bgw ?_ (by first | (simp; done) | (simp; omega) | omega) _ | refine Below.setCell ?_ (by first | exact Nat.le_of_not_lt (by assumption) | (simp; done) | (simp; omega) | omega) _ | refine Below.alloc ?_ (by first | (simp; done) | (simp; omega) | omega) _ | refine Below.drew ?_))⟩

end Go.Proofs.YtdlnidefjdjocaaDoor
