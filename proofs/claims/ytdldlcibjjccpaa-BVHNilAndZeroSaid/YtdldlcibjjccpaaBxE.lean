import Derived.Test.YtdldlcibjjccpaaBxD
import Derived.Deep.DeepCutAuto
set_option linter.unusedVariables false
set_option linter.unusedSimpArgs false
namespace Go.Proofs.Ytdldlcibjjccpaa
open Go.RowKit Fx

def insI : List Int → Int → List Int
  | [], i => [i]
  | a :: t, i => if a < i then a :: insI t i else if a = i then a :: t else i :: a :: t
theorem insI_at : ∀ (l : List Int) (i : Int) (k : Nat), k ≤ l.length → (∀ j (h : j < l.length), j < k → l[j] < i) → (∀ h : k < l.length, ¬ l[k] < i) → insI l i = if l[k]? = some i then l else l.take k ++ [i] ++ l.drop k
  | [], i, k, hk, _, _ => by
    simp at hk; subst hk; simp [insI]
  | a :: t, i, 0, _, _, h2 => by
    have h3 := h2 (by simp)
    simp at h3
    have h4 : ¬ a < i := by omega
    simp only [insI, if_neg h4, List.getElem?_cons_zero, Option.some.injEq, List.take_zero, List.drop_zero, List.nil_append, List.singleton_append]
  | a :: t, i, k + 1, hk, h1, h2 => by
    have h3 : a < i := h1 0 (by simp) (by omega)
    have := insI_at t i k (by simpa using hk) (fun j h hj => by have := h1 (j + 1) (by simpa using h) (by omega); simpa using this) (fun h => by have := h2 (by simpa using h); simpa using this)
    simp only [insI, if_pos h3, this, List.getElem?_cons_succ, List.take_succ_cons, List.drop_succ_cons]
    split <;> simp
theorem insI_len (l : List Int) (i : Int) : 0 < (insI l i).length ∧ (insI l i).length ≤ l.length + 1 := by
  induction l with
  | nil => simp [insI]
  | cons a t ih =>
    unfold insI
    split
    · simp; omega
    · split <;> simp
theorem insI_mem (l : List Int) (i j : Int) : j ∈ insI l i ↔ j = i ∨ j ∈ l := by
  induction l with
  | nil => simp [insI]
  | cons a t ih =>
    unfold insI
    split
    · rw [List.mem_cons, ih, List.mem_cons]; exact ⟨fun h => by rcases h with h | h | h <;> simp [h], fun h => by rcases h with h | h | h <;> simp [h]⟩
    · split
      · rename_i h1 h2; subst h2; simp
      · simp
theorem insI_srt {l : List Int} (h : l.Pairwise (· < ·)) (i : Int) : (insI l i).Pairwise (· < ·) := by
  induction l with
  | nil => simp [insI]
  | cons a t ih =>
    obtain ⟨h1, h2⟩ := List.pairwise_cons.1 h
    unfold insI
    split
    · rename_i h3
      refine List.pairwise_cons.2 ⟨fun j hj => ?_, ih h2⟩
      rcases (insI_mem t i j).1 hj with rfl | hj
      · exact h3
      · exact h1 j hj
    · split
      · exact h
      · rename_i h3 h4
        refine List.pairwise_cons.2 ⟨fun j hj => ?_, h⟩
        rcases List.mem_cons.1 hj with rfl | hj
        · omega
        · have := h1 j hj; omega

theorem iv_one20 (xs : List Int) : ∀ u ∈ iv xs, u.oneCell' = true := fun u hu => by
  simp only [iv, List.mem_map] at hu
  obtain ⟨x, _, rfl⟩ := hu; rfl

set_option maxRecDepth 100000 in
set_option maxHeartbeats 8000000 in
theorem insid0_b (i : Int) (w : World) : Calls Try.prog 13 #[.slice none 0 0, .int .i64 i] w fun e w' => (∃ v, e = .returned v ∧ w'.ownsRow w.heap.size 3 1 v [i].length (iv [i])) ∧ Below w.heap.size w w' := by
  obtain ⟨i0, hi, hz0, hz1, hz2⟩ := info_parts info_int20
  go_enter Try.func13, Try.ntmps13
  go_wp2_with fail
  go_loopw [5] (fun k wr => k = .int .i64 0 ∧ wr = w) (fun k _ => (intOf k).toNat)
  case atStart => exact ⟨rfl, rfl⟩
  case round =>
    obtain ⟨rfl, rfl⟩ := hrel
    go_upto_region 8 with (at_builtin; refine wpList_appN rfl _ _ 30 rfl wr.heap.size 3 i0 (.int .i64 0) 8 (by kernel_rfl) hi hz0 hz1 hz2 rfl _ _ _ rfl (World.ownsRow_nil _ _ _ _) _ _ _ [] rfl (fun _ => rfl) rfl (.inl rfl) (fun u hu => by cases hu) (by decide) (by decide) (Nat.le_refl _) ?_; intro v1 w1 hown1 hb1)
    have hz1' := hb1.size
    go_upto_region 9 with (at_builtin; refine wpList_appN rfl _ _ 30 rfl wr.heap.size 3 i0 (.int .i64 0) 8 (by kernel_rfl) hi hz0 hz1 hz2 rfl _ _ _ rfl (owns_below hown1 bBel) _ _ _ [.int .i64 i] rfl (fun h => by cases h) rfl (Cs.of_list (xs := [.int .i64 i]) bBkn) (iv_one20 [i]) (by decide) (by decide) (by first | (simp; omega) | omega) ?_; intro v2 w2 hown2 hb2)
    have hz2' := hb2.size
    have hb3 : Below wr.heap.size wr w2 := Below.trans (Below.alloc hb1 hz1' _) hb2
    have hz3 := hb3.size
    go_wp2_with (at_builtin; refine wpList_appN rfl _ _ 30 rfl wr.heap.size 3 i0 (.int .i64 0) 8 (by kernel_rfl) hi hz0 hz1 hz2 rfl _ _ _ rfl (owns_below hown2 bBel) _ _ _ [] rfl (fun _ => rfl) rfl (.inl rfl) (fun u hu => by cases hu) (by decide) (by decide) (by first | (simp; omega) | omega) ?_; intro v3 w3 hown3 hb4)
    go_ret
    exact ⟨⟨_, rfl, hown3⟩, hb3.trans hb4⟩

end Go.Proofs.Ytdldlcibjjccpaa
