/- Chapter 20: contracts of search, Query, RayQuery. -/
import Derived.Test.YtfhhkabdeajieaaBvL
import Derived.Test.YtfhhkabdeajieaaBvV
import Derived.Deep.DeepCutAuto
set_option linter.unusedVariables false
set_option linter.unusedSimpArgs false
namespace Go.Proofs.Ytfhhkabdeajieaa
open Go.RowKit Fx

theorem owns_base {w : World} {B B' : Nat} {e : TypeId} {k n : Nat} {v : Value} {xs : List Value} (h : w.ownsRow B e k v n xs) (hb : B' ≤ B) : w.ownsRow B' e k v n xs := by
  obtain ⟨h1, h2 | ⟨g, cap, cur, hv, hg, r⟩⟩ := h
  · exact ⟨h1, .inl h2⟩
  · exact ⟨h1, .inr ⟨g, cap, cur, hv, Nat.le_trans hb hg, r⟩⟩

/-- The IDs of the boxes that a test takes. -/
def hitL (L : Bxs) (m : Bx → Bool) : List Int := (L.filter fun e => m e.2).map (·.1)
theorem hits_perm {m : Bx → Bool} (hm : Mono m) {T : Tr} {L : Bxs} (hp : (T.lv.map (·.2)).Perm L) (hv : ∀ e ∈ L, e.2.val = true) : (T.hits m).Perm (hitL L m) := by
  have hvl : T.vl := fun e he => hv e.2 (hp.mem_iff.1 (List.mem_map.2 ⟨e, he, rfl⟩))
  rw [Tr.hits_eq hm T hvl]
  have h1 := ((hp.filter fun e => m e.2).map (·.1))
  rw [List.filter_map, List.map_map] at h1
  exact h1
theorem hitL_len (L : Bxs) (m : Bx → Bool) : (hitL L m).length ≤ L.length := by simp only [hitL, List.length_map]; exact List.length_filter_le _ _

set_option maxRecDepth 100000 in
set_option maxHeartbeats 4000000 in
theorem searchq_b (a : Nat) (L : Bxs) (S : Nat → Prop) (q0 q1 q2 q3 : Int) (w : World) (Bq : Nat) (kq : blk w Bq #[.int .i64 q0, .int .i64 q1, .int .i64 q2, .int .i64 q3] 31) (h : TreeAt w a L S) : Calls Try.prog 64 #[.pointer (some ⟨a, 0, none⟩), .func (.func 65) #[] #[.pointer (some ⟨Bq, 0, none⟩)]] w fun e w' => (∃ v, e = .returned v ∧ w'.ownsRow w.heap.size 3 1 v (hitL L (fun b => Bx.ovl b ⟨q0, q1, q2, q3⟩)).length (iv (hitL L (fun b => Bx.ovl b ⟨q0, q1, q2, q3⟩)))) ∧ Below w.heap.size w w' := by
  obtain ⟨T, mb, F, M, N, kt, m2, m3, m4, m5, m6, m7, m8, m9, m10⟩ := h.mem
  cases T with
  | none =>
    have hL : L = [] := by simpa [olv] using m9.symm
    subst hL
    simp only [Option.map_none, nptr_none] at kt
    clear m2 m3 m4 m5 m6 m7 m8 m9 m10 h kq
    have okt := blk_older kt
    have ckt_0 : _ = some _ := blk_cell kt 0
    have ckt_1 : _ = some _ := blk_cell kt 1
    have fkt_0 := blk_free kt 0
    have fkt_1 := blk_free kt 1
    go_enter Try.func64, Try.ntmps64
    go_wp2_with fail
    go_ret
    exact ⟨⟨_, rfl, owns_nil _ _ _⟩, bBel⟩
  | some T =>
    have hp := hits_perm (m := fun b => Bx.ovl b ⟨q0, q1, q2, q3⟩) (mono_ovl _) (T := T) m9 h.vals
    have hl := m9.length_eq
    have hlen := h.len
    simp only [olv, List.length_map] at hl
    have cC := collectq_b w.heap.size q0 q1 q2 q3 Bq (blk_lt kq) M N (fun k hk => h.lt k (m3 k hk)) T w (.slice none 0 0) [] m2 m7.1 m8 kq (Nat.le_refl _) (owns_nil _ _ _) (by simp; omega)
    have hs := srt_merge (L := L.filter fun e => (fun b => Bx.ovl b ⟨q0, q1, q2, q3⟩) e.2) (h.srt.filter _) hp
    have hl2 := hp.length_eq
    have hl3 := hitL_len L (fun b => Bx.ovl b ⟨q0, q1, q2, q3⟩)
    simp only [List.nil_append] at cC
    have A : Hid (((T.hits (fun b => Bx.ovl b ⟨q0, q1, q2, q3⟩)).mergeSort fun x y => decide (x ≤ y)) = hitL L (fun b => Bx.ovl b ⟨q0, q1, q2, q3⟩)) := hs
    rw [← hl2]
    rw [← A.out]
    have hn : (T.hits (fun b => Bx.ovl b ⟨q0, q1, q2, q3⟩)).length ≤ 1000000 := by omega
    generalize T.hits (fun b => Bx.ovl b ⟨q0, q1, q2, q3⟩) = xs at *
    simp only [Option.map_some, nptr_some] at kt
    clear m2 m3 m4 m5 m6 m7 m8 m9 m10 h hp hs hl hl2 hl3 kq A hlen
    generalize T.b = tb at *
    have okt := blk_older kt
    have ckt_0 : _ = some _ := blk_cell kt 0
    have ckt_1 : _ = some _ := blk_cell kt 1
    have fkt_0 := blk_free kt 0
    have fkt_1 := blk_free kt 1
    go_enter Try.func64, Try.ntmps64
    go_wp2_with (first | (go_at_call 92; with_reducible_and_instances refine Calls.mono cC ?_; rintro e w1 ⟨v1, rfl, ho1, hb1⟩) | (go_at_call 53; refine Calls.mono (xsort_own w.heap.size v1 xs w1 hn ho1) ?_; rintro e w2 ⟨rfl, ho2, hb2⟩))
    go_ret
    exact ⟨⟨_, rfl, ho2⟩, Below.trans hb1 hb2⟩

set_option maxRecDepth 100000 in
set_option maxHeartbeats 4000000 in
theorem query_b (a : Nat) (L : Bxs) (S : Nat → Prop) (q0 q1 q2 q3 : Int) (w : World) (h : TreeAt w a L S) : Calls Try.prog 46 #[.pointer (some ⟨a, 0, none⟩), .agg #[.int .i64 q0, .int .i64 q1, .int .i64 q2, .int .i64 q3]] w fun e w' => (∃ v, e = .returned v ∧ w'.ownsRow w.heap.size 3 1 v (hitL L (fun b => Bx.ovl b ⟨q0, q1, q2, q3⟩)).length (iv (hitL L (fun b => Bx.ovl b ⟨q0, q1, q2, q3⟩)))) ∧ Below w.heap.size w w' := by
  have c1 := fun (w' : World) (hb : Below w.heap.size w w') (kq : blk w' w.heap.size #[.int .i64 q0, .int .i64 q1, .int .i64 q2, .int .i64 q3] 31) => searchq_b a L S q0 q1 q2 q3 w' w.heap.size kq (h.below hb)
  generalize hitL L (fun b => Bx.ovl b ⟨q0, q1, q2, q3⟩) = ids at *
  go_enter Try.func46, Try.ntmps46
  go_wp2_with (go_at_call 64; with_reducible_and_instances refine Calls.mono (c1 _ bBel bBkn) ?_; rintro e w1 ⟨⟨v1, rfl, ho1⟩, hb1⟩)
  go_ret
  exact ⟨⟨_, rfl, owns_base ho1 (by simp <;> omega)⟩, Below.trans bBel (Below.mono hb1 (by simp <;> omega))⟩

end Go.Proofs.Ytfhhkabdeajieaa
