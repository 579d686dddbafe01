/- Contracts of the reference of chapter 8, continued: lines, joined fields, equal slices of strings. -/
import Derived.Test.YtdlnidefjdjocaaDoorFixFT
set_option linter.unusedVariables false
namespace Go.Proofs.YtdlnidefjdjocaaDoor
open Go.RowKit Fm

set_option maxHeartbeats 2000000 in
theorem rlines_b (bs : List Int) (hB : isB bs) (hl : bs.length ≤ 1000000) (w : World) : Calls Tryd.prog 24 #[.string (strOfNums bs)] w fun e w' => (∃ v, e = .returned (.tuple #[v, .int .i64 (lines bs).2]) ∧ w'.ownsRow w.heap.size 9 1 v (lines bs).1.length (sv (strs (lines bs).1))) ∧ Below w.heap.size w w' := by
  obtain ⟨i0, hi, hz0, hz1, hz2⟩ := info_parts info_str
  obtain ⟨F, hF⟩ : ∃ F, spl bs [] [] = F := ⟨_, rfl⟩
  obtain ⟨R, hR⟩ : ∃ R, lines bs = R := ⟨_, rfl⟩
  rw [hR]
  have hRs : ∀ l, F = some l → R = (l, 0) := fun l h => by rw [← hR]; unfold lines; rw [hF, h]
  have hRn : F = none → R = ([], 3) := fun h => by rw [← hR]; unfold lines; rw [hF, h]
  have hsz : (strOfNums bs).size = bs.length := strOfNums_size bs
  have hix : ∀ k (h : k < (strOfNums bs).size), (((strOfNums bs)[k]'h).toNat : Int) = bs[k]'(by rw [hsz] at h; exact h) := fun k h => str_idx hB k h
  have hex : ∀ i k, (strOfNums bs).extract i k = strOfNums (prt bs i k) := fun i k => str_part i k
  have hF' : Hid (spl bs [] [] = F) := hF
  generalize strOfNums bs = T at *
  clear hF hR
  go_enter Tryd.func24, Tryd.ntmps24
  go_wp2_with fail
  go_loopw [4, 5, 6] (fun v st i wr => ∃ (k s : Nat) (acc : List (List Int)), k ≤ bs.length ∧ s ≤ k ∧ i = .int .i64 k ∧ st = .int .i64 s ∧ wr.ownsRow w.heap.size 9 1 v acc.length (sv (strs acc)) ∧ acc.length ≤ k ∧ Hid (spl (bs.drop k) (prt bs s k) acc = F) ∧ Below w.heap.size w wr)
    (fun _ _ i _ => (bs.length - intOf i).toNat)
  case atStart => exact ⟨0, 0, [], by omega, by omega, rfl, rfl, owns_nil _ _ _, by simp, hF', (by repeat (first | with_reducible exact Below.refl _ _ | with_reducible assumption | refine bgw ?_ (by first | (simp; done) | (simp; omega) | omega) _ | refine Below.setCell ?_ (by first | exact Nat.le_of_not_lt (by assumption) | (simp; done) | (simp; omega) | omega) _ | refine Below.alloc ?_ (by first | (simp; done) | (simp; omega) | omega) _ | refine Below.drew ?_))⟩
  case round =>
    obtain ⟨k, s, acc, hk, hsk, rfl, rfl, hown, hacc, h1, hbw⟩ := hrel
    have hszw := hbw.size
    have hf := h1.out
    by_cases hlt : k < bs.length
    · have i0' : (0 : Int) ≤ (k : Int) := by omega
      have s0' : (0 : Int) ≤ (s : Int) := by omega
      have s1' : (s : Int) ≤ (k : Int) := by omega
      have i1 : (k : Int) < (bs.length : Int) := by omega
      have hxs := hex s k
      have hx := hix k (by omega)
      rw [drop_cons hlt] at hf
      have hps := prt_succ (s := bs) hsk hlt
      clear hix hex h1
      generalize bs[k] = x at *
      by_cases h32 : x = 10
      · subst h32
        rw [spl_feed] at hf
        have hs1 := prt_same bs (k + 1)
        generalize prt bs s k = cur at *
        have hnew : sv (strs (acc ++ [cur])) = sv (strs acc) ++ [.string (strOfNums cur)] := by rw [strs_append, sv_append]; rfl
        generalize hU : strOfNums cur = U at *
        have hf' : Hid (spl (bs.drop (k + 1)) (prt bs (k + 1) (k + 1)) (acc ++ [cur]) = F) := by rw [hs1]; exact hf
        clear hf hRn hRs hps hs1 hF' hU
        go_wp2_with (at_builtin; refine wpList_app1 rfl _ _ 22 rfl w.heap.size 9 i0 (.string ByteArray.empty) 16 Tryd.underlying22 hi hz0 hz1 hz2 rfl _ _ _ rfl (owns_below hown (by repeat (first | with_reducible exact Below.refl _ _ | with_reducible assumption | refine bgw ?_ (by first | (simp; done) | (simp; omega) | omega) _ | refine Below.setCell ?_ (by first | exact Nat.le_of_not_lt (by assumption) | (simp; done) | (simp; omega) | omega) _ | refine Below.alloc ?_ (by first | (simp; done) | (simp; omega) | omega) _ | refine Below.drew ?_))) _ (.string U) rfl (blk_cell (c := #[.string U]) (by repeat (first | with_reducible exact blk_new _ _ _ | ((with_reducible refine blk_at ?_); (simp; done)) | with_reducible apply blk_alloc | with_reducible apply blk_gw)) 0) rfl (by unfold maxLen; omega) (by omega) (by first | (simp; omega) | omega) ?_; intro v' w2 hown2 hb2)
        refine ⟨⟨k + 1, k + 1, acc ++ [cur], by omega, by omega, by go_num, by go_num, by rw [hnew, List.length_append]; exact hown2, by simp; omega, hf', Below.trans (by repeat (first | with_reducible exact Below.refl _ _ | with_reducible assumption | refine bgw ?_ (by first | (simp; done) | (simp; omega) | omega) _ | refine Below.setCell ?_ (by first | exact Nat.le_of_not_lt (by assumption) | (simp; done) | (simp; omega) | omega) _ | refine Below.alloc ?_ (by first | (simp; done) | (simp; omega) | omega) _ | refine Below.drew ?_)) hb2⟩, by (try go_num); simp [intOf]; (try omega)⟩
      · rw [spl_other h32] at hf
        have h33 : (x == 10) = false := by rw [beq_eq_false_iff_ne]; exact h32
        have hf' : Hid (spl (bs.drop (k + 1)) (prt bs s (k + 1)) acc = F) := by rw [hps]; exact hf
        clear hf hRn hRs hps hF' h32 hxs
        go_wp2_with fail
        exact ⟨⟨k + 1, s, acc, by omega, by omega, by go_num, rfl, owns_below hown (by repeat (first | with_reducible exact Below.refl _ _ | with_reducible assumption | refine bgw ?_ (by first | (simp; done) | (simp; omega) | omega) _ | refine Below.setCell ?_ (by first | exact Nat.le_of_not_lt (by assumption) | (simp; done) | (simp; omega) | omega) _ | refine Below.alloc ?_ (by first | (simp; done) | (simp; omega) | omega) _ | refine Below.drew ?_)), by omega, hf', (by repeat (first | with_reducible exact Below.refl _ _ | with_reducible assumption | refine bgw ?_ (by first | (simp; done) | (simp; omega) | omega) _ | refine Below.setCell ?_ (by first | exact Nat.le_of_not_lt (by assumption) | (simp; done) | (simp; omega) | omega) _ | refine Below.alloc ?_ (by first | (simp; done) | (simp; omega) | omega) _ | refine Below.drew ?_))⟩, by (try go_num); simp [intOf]; (try omega)⟩
    · obtain rfl : k = bs.length := by omega
      have i1 : ¬ (bs.length : Int) < (bs.length : Int) := by omega
      rw [List.drop_length, spl_end, ] at hf
      have hnil := prt_nil (s := bs) hsk (Nat.le_refl _)
      by_cases hs : s < bs.length
      focus
        have s1 : (s : Int) < (bs.length : Int) := by omega
        rw [if_neg (by rw [hnil]; omega)] at hf
        obtain rfl := hRn hf.symm
        clear hix hex h1 hRn hRs hF' hf hnil
        go_wp2_with fail
        exact bodyPost_ret (v := .tuple #[.slice none 0 0, .int .i64 3]) (by simp [results, Tryd.results24, go_sem]) rfl ⟨⟨_, rfl, owns_nil _ _ _⟩, (by repeat (first | with_reducible exact Below.refl _ _ | with_reducible assumption | refine bgw ?_ (by first | (simp; done) | (simp; omega) | omega) _ | refine Below.setCell ?_ (by first | exact Nat.le_of_not_lt (by assumption) | (simp; done) | (simp; omega) | omega) _ | refine Below.alloc ?_ (by first | (simp; done) | (simp; omega) | omega) _ | refine Below.drew ?_))⟩
      have s1 : ¬ (s : Int) < (bs.length : Int) := by omega
      rw [if_pos (by rw [hnil]; omega)] at hf
      obtain rfl := hRs _ hf.symm
      clear hix hex h1 hRn hRs hF' hf hnil
      go_wp2_with fail
      exact bodyPost_ret (v := .tuple #[_, .int .i64 0]) (by simp [results, Tryd.results24, go_sem]) rfl ⟨⟨_, rfl, owns_below hown (by repeat (first | with_reducible exact Below.refl _ _ | with_reducible assumption | refine bgw ?_ (by first | (simp; done) | (simp; omega) | omega) _ | refine Below.setCell ?_ (by first | exact Nat.le_of_not_lt (by assumption) | (simp; done) | (simp; omega) | omega) _ | refine Below.alloc ?_ (by first | (simp; done) | (simp; omega) | omega) _ | refine Below.drew ?_))⟩, (by repeat (first | with_reducible exact Below.refl _ _ | with_reducible assumption | refine bgw ?_ (by first | (simp; done) | (simp; omega) | omega) _ | refine Below.setCell ?_ (by first | exact Nat.le_of_not_lt (by assumption) | (simp; done) | (simp; omega) | omega) _ | refine Below.alloc ?_ (by first | (simp; done) | (simp; omega) | omega) _ | refine Below.drew ?_))⟩

theorem str_eq_list {x y : ByteArray} (h : x.toList = y.toList) : x = y := by
  rw [ByteArray.toList_eq, ByteArray.toList_eq] at h
  cases x; cases y
  simp only at h
  rw [Array.toList_inj] at h
  rw [h]

theorem req8_b (A B : Option Addr) (ca cb : Nat) (ns ms : List ByteArray) (hn : ns.length ≤ 2000000) (hm : ms.length ≤ 2000000) (w : World) (ha : Strs w A ns) (hb : Strs w B ms) : Calls Tryd.prog 17 #[.slice A ns.length ca, .slice B ms.length cb] w fun e w' => e = .returned (.bool (decide (ns = ms))) ∧ Below w.heap.size w w' := by
  obtain ⟨P, hP⟩ : ∃ P, decide (ns = ms) = P := ⟨_, rfl⟩
  rw [hP]
  by_cases hlen : ns.length = ms.length
  rotate_left
  focus
    have e : P = false := hP.symm.trans (decide_eq_false fun h => hlen (by rw [h]))
    subst e
    have hlen' : ¬ (ns.length : Int) = (ms.length : Int) := by omega
    go_enter Tryd.func17, Tryd.ntmps17
    go_wp2_with fail
    repeat
      refine wp_region_gw (by kernel_rfl) (by kernel_rfl) ?_
      repeat (go_big_quiet_step (fail))
      refine wpQuiet_nil ?_
      intro w1 hw1
      obtain ⟨q, rfl⟩ := hw1
      go_wp2_with fail
    go_ret
    exact ⟨rfl, (by repeat (first | with_reducible exact Below.refl _ _ | with_reducible assumption | refine bgw ?_ (by first | (simp; done) | (simp; omega) | omega) _ | refine Below.setCell ?_ (by first | exact Nat.le_of_not_lt (by assumption) | (simp; done) | (simp; omega) | omega) _ | refine Below.alloc ?_ (by first | (simp; done) | (simp; omega) | omega) _ | refine Below.drew ?_))⟩
  rw [hlen]
  go_enter Tryd.func17, Tryd.ntmps17
  go_wp2_with fail
  go_loopw [5] (fun i wr => ∃ k : Nat, k ≤ ms.length ∧ i = .int .i64 k ∧ ns.take k = ms.take k ∧ Below w.heap.size w wr)
    (fun i _ => (ms.length - intOf i).toNat)
  case atStart => exact ⟨0, by omega, rfl, by simp, (by repeat (first | with_reducible exact Below.refl _ _ | with_reducible assumption | refine bgw ?_ (by first | (simp; done) | (simp; omega) | omega) _ | refine Below.setCell ?_ (by first | exact Nat.le_of_not_lt (by assumption) | (simp; done) | (simp; omega) | omega) _ | refine Below.alloc ?_ (by first | (simp; done) | (simp; omega) | omega) _ | refine Below.drew ?_))⟩
  case round =>
    obtain ⟨k, hk, rfl, hall, hbw⟩ := hrel
    have hsz := hbw.size
    by_cases hlt : k < ms.length
    · have i0 : (0 : Int) ≤ (k : Int) := by omega
      have i1 : (k : Int) < (ms.length : Int) := by omega
      obtain ⟨b1, off1, rfl, h1⟩ := Strs.open (ha.to hbw) (by omega)
      obtain ⟨b2, off2, rfl, h2⟩ := Strs.open (hb.to hbw) (by omega)
      have d1 := h1 k (by omega)
      have d2 := h2 k hlt
      have o1 := older_of_cell d1
      have o2 := older_of_cell d2
      generalize hx : ns[k] = x at *
      generalize hy : ms[k] = y at *
      by_cases hxy : x = y
      · subst hxy
        go_wp2_with fail
        refine wp_region_gw (by kernel_rfl) (by kernel_rfl) ?_
        repeat (go_big_quiet_step (fail))
        refine wpQuiet_nil ?_
        intro w1 hw1
        obtain ⟨q, rfl⟩ := hw1
        go_wp2_with fail
        refine ⟨⟨k + 1, by omega, by go_num, ?_, (by repeat (first | with_reducible exact Below.refl _ _ | with_reducible assumption | refine bgw ?_ (by first | (simp; done) | (simp; omega) | omega) _ | refine Below.setCell ?_ (by first | exact Nat.le_of_not_lt (by assumption) | (simp; done) | (simp; omega) | omega) _ | refine Below.alloc ?_ (by first | (simp; done) | (simp; omega) | omega) _ | refine Below.drew ?_))⟩, by (try go_num); simp [intOf]; (try omega)⟩
        rw [List.take_add_one, List.take_add_one, List.getElem?_eq_getElem (show k < ns.length by omega), List.getElem?_eq_getElem hlt, hall, hx, hy]
      · have e : P = false := hP.symm.trans (decide_eq_false fun h => hxy (by rw [← hx, ← hy]; simp only [h]))
        subst e
        have hxy' : (x.toList == y.toList) = false := by rw [beq_eq_false_iff_ne]; exact fun h => hxy (str_eq_list h)
        have hxy2 : (x.toList != y.toList) = true := by rw [bne, hxy']; rfl
        go_wp2_with fail
        refine wp_region_gw (by kernel_rfl) (by kernel_rfl) ?_
        repeat (go_big_quiet_step (fail))
        refine wpQuiet_nil ?_
        intro w1 hw1
        obtain ⟨q, rfl⟩ := hw1
        go_wp2_with fail
        go_ret
        exact ⟨rfl, (by repeat (first | with_reducible exact Below.refl _ _ | with_reducible assumption | refine bgw ?_ (by first | (simp; done) | (simp; omega) | omega) _ | refine Below.setCell ?_ (by first | exact Nat.le_of_not_lt (by assumption) | (simp; done) | (simp; omega) | omega) _ | refine Below.alloc ?_ (by first | (simp; done) | (simp; omega) | omega) _ | refine Below.drew ?_))⟩
    · obtain rfl : k = ms.length := by omega
      have i1 : ¬ (ms.length : Int) < (ms.length : Int) := by omega
      have e : P = true := hP.symm.trans (decide_eq_true (by rw [List.take_length, List.take_of_length_le (by omega)] at hall; exact hall))
      subst e
      go_wp2_with fail
      go_ret
      exact ⟨rfl, (by repeat (first | with_reducible exact Below.refl _ _ | with_reducible assumption | refine bgw ?_ (by first | (simp; done) | (simp; omega) | omega) _ | refine Below.setCell ?_ (by first | exact Nat.le_of_not_lt (by assumption) | (simp; done) | (simp; omega) | omega) _ | refine Below.alloc ?_ (by first | (simp; done) | (simp; omega) | omega) _ | refine Below.drew ?_))⟩

set_option maxHeartbeats 1000000 in
theorem rjoin_b (A : Option Addr) (ca c : Nat) (l : List ByteArray) (hc : ∀ s ∈ l, s.size ≤ c) (hcb : l.length * (c + 1) ≤ 1000000000) (w : World) (ha : Strs w A l) : Calls Tryd.prog 27 #[.slice A l.length ca] w fun e w' => e = .returned (.string (strOfNums (jn (numss l)))) ∧ Below w.heap.size w w' := by
  have hlc : l.length ≤ 1000000000 := Nat.le_trans (Nat.le_mul_of_pos_right _ (by omega)) hcb
  have hjl : ∀ k, (strOfNums (jn (numss (l.take k)))).size ≤ 1000000000 := fun k => by
    rw [strOfNums_size]
    have := jn_len c (numss (l.take k)) fun f hf => by
      simp only [numss, List.mem_map] at hf
      obtain ⟨s, hs, rfl⟩ := hf
      rw [nums_length]; exact hc s (List.mem_of_mem_take hs)
    refine Nat.le_trans this (Nat.le_trans (Nat.mul_le_mul_right _ ?_) hcb)
    simp [numss]; omega
  have hj1 : ∀ k (h : k < l.length), strOfNums (jn (numss (l.take (k + 1)))) = if k = 0 then l[k] else strOfNums (jn (numss (l.take k))) ++ { data := #[32] } ++ l[k] := fun k h => by
    by_cases hk : k = 0
    · subst hk
      rw [if_pos rfl]
      cases l with
      | nil => simp at h
      | cons a r => simp [numss, jn, of_nums]
    · rw [if_neg hk]
      have e : jn ((l.map nums).take (k + 1)) = jn ((l.map nums).take k) ++ 32 :: nums l[k] := by
        rw [jn_succ (by omega) (by rw [List.length_map]; exact h), List.getElem_map]
      simp only [numss, List.map_take]
      rw [e, show ({ data := #[32] } : ByteArray) = strOfNums [32] from rfl]
      conv => rhs; rw [← of_nums l[k]]
      rw [str_append, str_append]; simp
  have hend : strOfNums (jn (numss (l.take l.length))) = strOfNums (jn (numss l)) := by rw [List.take_length]
  have h00 : strOfNums (jn (numss (l.take 0))) = { data := #[] } := rfl
  obtain ⟨J, hJ⟩ : ∃ J : Nat → ByteArray, ∀ k, strOfNums (jn (numss (l.take k))) = J k := ⟨_, fun _ => rfl⟩
  simp only [hJ] at hjl hj1 hend h00
  rw [← hend]
  clear hend hJ
  go_enter Tryd.func27, Tryd.ntmps27
  go_wp2_with fail
  go_loopw [3, 4] (fun s i wr => ∃ k : Nat, k ≤ l.length ∧ i = .int .i64 k ∧ s = .string (J k) ∧ Below w.heap.size w wr)
    (fun _ i _ => (l.length - intOf i).toNat)
  case atStart => exact ⟨0, by omega, rfl, by rw [h00], (by repeat (first | with_reducible exact Below.refl _ _ | with_reducible assumption | refine bgw ?_ (by first | (simp; done) | (simp; omega) | omega) _ | refine Below.setCell ?_ (by first | exact Nat.le_of_not_lt (by assumption) | (simp; done) | (simp; omega) | omega) _ | refine Below.alloc ?_ (by first | (simp; done) | (simp; omega) | omega) _ | refine Below.drew ?_))⟩
  case round =>
    obtain ⟨k, hk, rfl, rfl, hbw⟩ := hrel
    have hsz := hbw.size
    by_cases hlt : k < l.length
    · have i0 : (0 : Int) ≤ (k : Int) := by omega
      have i1 : (k : Int) < (l.length : Int) := by omega
      obtain ⟨b1, off1, rfl, h1⟩ := Strs.open (ha.to hbw) (by omega)
      have d1 := h1 k hlt
      have o1 := older_of_cell d1
      have hj := hj1 k hlt
      have hl0 := hjl k
      have hl1 := hjl (k + 1)
      have hs := hc _ (List.getElem_mem hlt)
      have hsc : c ≤ 1000000000 := Nat.le_trans (Nat.le_trans (Nat.le_succ c) (Nat.le_mul_of_pos_left _ (by omega))) hcb
      clear hj1 hjl h1 hc hcb
      generalize l[k] = y at *
      by_cases hk0 : k = 0
      · subst hk0
        rw [if_pos rfl] at hj
        rw [h00]
        simp only [Nat.add_zero] at d1 o1
        have he0 : ({ data := #[] } : ByteArray) ++ y = y := by apply ByteArray.ext; simp
        have hs1 : ¬ 9223372036854775807 < ({ data := #[] } : ByteArray).size + y.size := by rw [show ({ data := #[] } : ByteArray).size = 0 from rfl]; omega
        go_wp2_with fail
        exact ⟨⟨0 + 1, by omega, by go_num, by rw [hj], (by repeat (first | with_reducible exact Below.refl _ _ | with_reducible assumption | refine bgw ?_ (by first | (simp; done) | (simp; omega) | omega) _ | refine Below.setCell ?_ (by first | exact Nat.le_of_not_lt (by assumption) | (simp; done) | (simp; omega) | omega) _ | refine Below.alloc ?_ (by first | (simp; done) | (simp; omega) | omega) _ | refine Below.drew ?_))⟩, by (try go_num); simp [intOf]; (try omega)⟩
      · rw [if_neg hk0] at hj
        have hk1 : (0 : Int) < (k : Int) := by omega
        generalize J k = X at *
        have hz1 : ({ data := #[32] } : ByteArray).size = 1 := rfl
        have hs1 : ¬ 9223372036854775807 < X.size + ({ data := #[32] } : ByteArray).size := by omega
        have hs2 : ¬ 9223372036854775807 < (X ++ { data := #[32] }).size + y.size := by rw [ByteArray.size_append]; omega
        have hs3 : ¬ 9223372036854775807 < X.size + ({ data := #[32] } : ByteArray).size + y.size := by omega
        clear hk0
        go_wp2_with fail
        exact ⟨⟨k + 1, by omega, by go_num, by rw [hj], (by repeat (first | with_reducible exact Below.refl _ _ | with_reducible assumption | refine bgw ?_ (by first | (simp; done) | (simp; omega) | omega) _ | refine Below.setCell ?_ (by first | exact Nat.le_of_not_lt (by assumption) | (simp; done) | (simp; omega) | omega) _ | refine Below.alloc ?_ (by first | (simp; done) | (simp; omega) | omega) _ | refine Below.drew ?_))⟩, by (try go_num); simp [intOf]; (try omega)⟩
    · obtain rfl : k = l.length := by omega
      have i1 : ¬ (l.length : Int) < (l.length : Int) := by omega
      go_wp2_with fail
      go_ret
      exact ⟨rfl, (by repeat (first | with_reducible exact Below.refl _ _ | with_reducible assumption | refine bgw ?_ (by first | (simp; done) | (simp; omega) | omega) _ | refine Below.setCell ?_ (by first | exact Nat.le_of_not_lt (by assumption) | (simp; done) | (simp; omega) | omega) _ | refine Below.alloc ?_ (by first | (simp; done) | (simp; omega) | omega) _ | refine Below.drew ?_))⟩

end Go.Proofs.YtdlnidefjdjocaaDoor
