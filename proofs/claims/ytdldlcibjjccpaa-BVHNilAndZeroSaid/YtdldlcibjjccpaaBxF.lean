import Derived.Test.YtdldlcibjjccpaaBxE
import Derived.Deep.DeepCutAuto
set_option linter.unusedVariables false
set_option linter.unusedSimpArgs false
namespace Go.Proofs.Ytdldlcibjjccpaa
open Go.RowKit Fx

theorem own_cast {w : World} {B n n' : Nat} {e : TypeId} {v : Value} {xs xs' : List Value} (h : w.ownsRow B e 1 v n xs) (hn : n = n') (hx : xs = xs') : w.ownsRow B e 1 v n' xs' := by subst hn; subst hx; exact h

theorem cs_row {w : World} {g : Nat} {ids : List Int} {rest : List Value} {e : TypeId} (kb : blk w g (iv ids ++ rest).toArray e) (a m : Nat) (h : a + m ≤ ids.length) : Cs w (some ⟨g, a, none⟩) (iv ((ids.drop a).take m)) := by
  refine .inr ⟨g, a, rfl, fun j hj => ?_⟩
  have hj' : j < m := by simp [iv] at hj; omega
  rw [blk_cell kb]
  simp [iv, List.getElem?_append, show a + j < ids.length from by omega]

set_option maxRecDepth 100000 in
set_option maxHeartbeats 8000000 in
theorem insid_b (g n cap : Nat) (ids : List Int) (rest : List Value) (i : Int) (w : World) (kb : blk w g (iv ids ++ rest).toArray 3) (hn : ids.length = n) (h0 : 0 < n) (hc : n ≤ cap) (hn1 : n ≤ 100000) : Calls Try.prog 13 #[.slice (some ⟨g, 0, none⟩) n cap, .int .i64 i] w fun e w' => (∃ v, e = .returned v ∧ Hid ((v = .slice (some ⟨g, 0, none⟩) n cap ∧ insI ids i = ids) ∨ w'.ownsRow w.heap.size 3 1 v (insI ids i).length (iv (insI ids i)))) ∧ Below w.heap.size w w' := by
  obtain ⟨i0, hi, hz0, hz1, hz2⟩ := info_parts info_int20
  have hn : Hid (ids.length = n) := hn
  have og : older g w = true := older_iff.2 (blk_lt kb)
  have hcell : ∀ k (h : k < n), w.cell? ⟨g, k, none⟩ = some (.int .i64 (ids[k]'(by have := hn.out; omega))) := fun k h => by
    have hk : k < ids.length := by have := hn.out; omega
    rw [blk_cell kb]
    simp [iv, List.getElem?_append, hk]
  go_enter Try.func13, Try.ntmps13
  go_wp2_with fail
  go_loopw [5] (fun kv wr => ∃ k : Nat, k ≤ n ∧ kv = .int .i64 (k : Int) ∧ Hid (∀ j (h : j < ids.length), j < k → ids[j] < i) ∧ wr = w) (fun k _ => n - (intOf k).toNat)
  case atStart => exact ⟨0, by omega, rfl, (fun j h hj => by omega), rfl⟩
  case round =>
    obtain ⟨k, hk, rfl, hT, rfl⟩ := hrel
    by_cases hkn : k < n
    · have hki : (k : Int) < (n : Int) := by omega
      have hkl : k < ids.length := by have := hn.out; omega
      have d0 := hcell k hkn
      obtain ⟨x, hx'⟩ : ∃ x, ids[k] = x := ⟨_, rfl⟩
      rw [hx'] at d0
      have hx : Hid (ids[k] = x) := hx'
      clear hx'
      by_cases hxi : x < i
      · have hT2 : Hid (∀ j (h : j < ids.length), j < k + 1 → ids[j] < i) := fun j h hj => by
          by_cases hjk : j = k
          · subst hjk; rw [hx.out]; exact hxi
          · exact hT.out j h (by omega)
        clear hT hcell
        go_wp2_with fail
        refine ⟨⟨k + 1, by omega, by go_num, hT2, (by first | trivial | rfl)⟩, by (try go_num); simp [intOf]; (try omega)⟩
      · have hI := insI_at ids i k (by omega) hT.out (fun h => by rw [hx.out]; exact hxi)
        rw [List.getElem?_eq_getElem hkl, hx.out] at hI
        by_cases hxe : x = i
        · rw [if_pos (by rw [hxe])] at hI
          have hJ : Hid (insI ids i = ids) := hI
          clear hI
          subst hxe
          clear hT hcell
          go_wp2_with fail
          go_ret
          exact ⟨⟨_, rfl, Or.inl (And.intro rfl hJ.out)⟩, bBel⟩
        · rw [if_neg (fun h => hxe (Option.some.inj h))] at hI
          have hJ : Hid (insI ids i = ids.take k ++ [i] ++ ids.drop k) := hI
          clear hI
          have hl1 : (iv (ids.take k)).length = k := by simp [iv]; omega
          have hcs1 : Cs wr (some ⟨g, 0, none⟩) (iv (ids.take k)) := by
            have := cs_row (ids := ids) kb 0 k (by have := hn.out; omega)
            simpa using this
          have hcs2 : Cs wr (some ⟨g, k, none⟩) (iv (ids.drop k)) := by
            have := cs_row (ids := ids) kb k (ids.length - k) (by have := hn.out; omega)
            rwa [List.take_of_length_le (by simp)] at this
          have hl2 : (iv (ids.drop k)).length = n - k := by simp [iv]; have := hn.out; omega
          clear hT hcell hx hkl
          go_upto_region 8 with (at_builtin; refine wpList_appN rfl _ _ 30 rfl wr.heap.size 3 i0 (.int .i64 0) 8 (by kernel_rfl) hi hz0 hz1 hz2 rfl _ _ _ rfl (World.ownsRow_nil _ _ _ _) _ _ _ (iv (ids.take k)) rfl (fun h => by cases h) hl1 hcs1 (iv_one20 _) (by unfold maxLen; omega) (by omega) (Nat.le_refl _) ?_; intro v1 w1 hown1 hb1)
          have hz1' := hb1.size
          go_upto_region 9 with (at_builtin; refine wpList_appN rfl _ _ 30 rfl wr.heap.size 3 i0 (.int .i64 0) 8 (by kernel_rfl) hi hz0 hz1 hz2 rfl _ _ _ rfl (owns_below hown1 bBel) _ _ _ [.int .i64 i] rfl (fun h => by cases h) rfl (Cs.of_list (xs := [.int .i64 i]) bBkn) (iv_one20 [i]) (by unfold maxLen; omega) (by omega) (by first | (simp; omega) | omega) ?_; intro v2 w2 hown2 hb2)
          have hz2' := hb2.size
          have hb3 : Below wr.heap.size wr w2 := Below.trans (Below.alloc hb1 hz1' _) hb2
          have hz3 := hb3.size
          have hkc : k < cap := by omega
          have hkc2 : ¬ cap = k := by omega
          have hkci : (k : Int) ≤ (n : Int) := by omega
          go_wp2_with (at_builtin; refine wpList_appN rfl _ _ 30 rfl wr.heap.size 3 i0 (.int .i64 0) 8 (by kernel_rfl) hi hz0 hz1 hz2 rfl _ _ _ rfl (owns_below hown2 bBel) _ _ _ (iv (ids.drop k)) rfl (fun h => by cases h) hl2 (Cs.to hcs2 hb3) (iv_one20 _) (by unfold maxLen; omega) (by omega) (by first | (simp; omega) | omega) ?_; intro v3 w3 hown3 hb4)
          go_ret
          exact ⟨⟨_, rfl, Or.inr (own_cast hown3 (by rw [hJ.out]; simp; have := hn.out; omega) (by rw [hJ.out]; simp [iv]))⟩, hb3.trans hb4⟩
    · obtain rfl : k = n := by omega
      have hI := insI_at ids i k (by have := hn.out; omega) hT.out (fun h => by have := hn.out; omega)
      rw [List.getElem?_eq_none (by have := hn.out; omega), if_neg (by simp)] at hI
      have hJ : Hid (insI ids i = ids.take k ++ [i] ++ ids.drop k) := hI
      clear hI
      have hl1 : (iv (ids.take k)).length = k := by simp [iv]; have := hn.out; omega
      have hcs1 : Cs wr (some ⟨g, 0, none⟩) (iv (ids.take k)) := by
        have := cs_row (ids := ids) kb 0 k (by have := hn.out; omega)
        simpa using this
      clear hT hcell
      have hd0 : Hid (ids.drop k = []) := List.drop_of_length_le (by have := hn.out; omega)
      by_cases hck : cap = k
      · rw [hck]
        go_upto_region 8 with (at_builtin; refine wpList_appN rfl _ _ 30 rfl wr.heap.size 3 i0 (.int .i64 0) 8 (by kernel_rfl) hi hz0 hz1 hz2 rfl _ _ _ rfl (World.ownsRow_nil _ _ _ _) _ _ _ (iv (ids.take k)) rfl (fun h => by cases h) hl1 hcs1 (iv_one20 _) (by unfold maxLen; omega) (by omega) (Nat.le_refl _) ?_; intro v1 w1 hown1 hb1)
        have hz1' := hb1.size
        go_upto_region 9 with (at_builtin; refine wpList_appN rfl _ _ 30 rfl wr.heap.size 3 i0 (.int .i64 0) 8 (by kernel_rfl) hi hz0 hz1 hz2 rfl _ _ _ rfl (owns_below hown1 bBel) _ _ _ [.int .i64 i] rfl (fun h => by cases h) rfl (Cs.of_list (xs := [.int .i64 i]) bBkn) (iv_one20 [i]) (by unfold maxLen; omega) (by omega) (by first | (simp; omega) | omega) ?_; intro v2 w2 hown2 hb2)
        have hz2' := hb2.size
        have hb3 : Below wr.heap.size wr w2 := Below.trans (Below.alloc hb1 hz1' _) hb2
        have hz3 := hb3.size
        go_wp2_with (at_builtin; refine wpList_appN rfl _ _ 30 rfl wr.heap.size 3 i0 (.int .i64 0) 8 (by kernel_rfl) hi hz0 hz1 hz2 rfl _ _ _ rfl (owns_below hown2 bBel) _ _ _ (iv []) rfl (fun h => by cases h) rfl (.inl rfl) (iv_one20 _) (by unfold maxLen; omega) (by omega) (by first | (simp; omega) | omega) ?_; intro v3 w3 hown3 hb4)
        go_ret
        exact ⟨⟨_, rfl, Or.inr (own_cast hown3 (by rw [hJ.out, hd0.out]; simp; have := hn.out; omega) (by rw [hJ.out, hd0.out]; simp [iv]))⟩, hb3.trans hb4⟩
      · have hkc : k < cap := by omega
        go_upto_region 8 with (at_builtin; refine wpList_appN rfl _ _ 30 rfl wr.heap.size 3 i0 (.int .i64 0) 8 (by kernel_rfl) hi hz0 hz1 hz2 rfl _ _ _ rfl (World.ownsRow_nil _ _ _ _) _ _ _ (iv (ids.take k)) rfl (fun h => by cases h) hl1 hcs1 (iv_one20 _) (by unfold maxLen; omega) (by omega) (Nat.le_refl _) ?_; intro v1 w1 hown1 hb1)
        have hz1' := hb1.size
        go_upto_region 9 with (at_builtin; refine wpList_appN rfl _ _ 30 rfl wr.heap.size 3 i0 (.int .i64 0) 8 (by kernel_rfl) hi hz0 hz1 hz2 rfl _ _ _ rfl (owns_below hown1 bBel) _ _ _ [.int .i64 i] rfl (fun h => by cases h) rfl (Cs.of_list (xs := [.int .i64 i]) bBkn) (iv_one20 [i]) (by unfold maxLen; omega) (by omega) (by first | (simp; omega) | omega) ?_; intro v2 w2 hown2 hb2)
        have hz2' := hb2.size
        have hb3 : Below wr.heap.size wr w2 := Below.trans (Below.alloc hb1 hz1' _) hb2
        have hz3 := hb3.size
        go_wp2_with (at_builtin; refine wpList_appN rfl _ _ 30 rfl wr.heap.size 3 i0 (.int .i64 0) 8 (by kernel_rfl) hi hz0 hz1 hz2 rfl _ _ _ rfl (owns_below hown2 bBel) _ _ _ (iv []) rfl (fun h => by cases h) rfl (.inl rfl) (iv_one20 _) (by unfold maxLen; omega) (by omega) (by first | (simp; omega) | omega) ?_; intro v3 w3 hown3 hb4)
        go_ret
        exact ⟨⟨_, rfl, Or.inr (own_cast hown3 (by rw [hJ.out, hd0.out]; simp; have := hn.out; omega) (by rw [hJ.out, hd0.out]; simp [iv]))⟩, hb3.trans hb4⟩

end Go.Proofs.Ytdldlcibjjccpaa
