/- Chapter 20: contracts of New, Len, Height, Bounds, newLeaf. -/
import Derived.Test.YtfhhkabdeajieaaBvR
import Derived.Deep.DeepCutAuto
set_option linter.unusedVariables false
set_option linter.unusedSimpArgs false
namespace Go.Proofs.Ytfhhkabdeajieaa
open Go.RowKit Fx

theorem post_nm20 {P : Program} {fn : Func} {R : Ending → World → Prop} {a : Act} {w : World} {x : Exit} (h : ∀ Z, Z = w → bodyPost P fn R x a Z) : bodyPost P fn R x a w := h w rfl

set_option maxRecDepth 100000 in
set_option maxHeartbeats 4000000 in
theorem new_b (w : World) : Calls Try.prog 21 #[] w fun e w' => e = .returned (.pointer (some ⟨w.heap.size, 0, none⟩)) ∧ blk w' w.heap.size #[.pointer none, .map none] 78 ∧ Below w.heap.size w w' := by
  go_enter Try.func21, Try.ntmps21
  go_wp2_with fail
  go_ret
  exact ⟨rfl, bBkn, bBel⟩

theorem new_tree {w' : World} {a : Nat} (kt : blk w' a #[.pointer none, .map none] 78) : TreeAt w' a [] (fun k => k = a) :=
  ⟨fun k h => h ▸ blk_lt kt, rfl, List.Pairwise.nil, by simp, by simp, by simp, none, none, fun _ => none, fun _ => default, fun _ => False, kt, fun _ h => h.elim, fun _ h => h.elim, id, by simp, ⟨fun _ => rfl, rfl⟩, trivial, by simp [obs], List.Perm.refl _, by simp [olv]⟩

set_option maxRecDepth 100000 in
set_option maxHeartbeats 4000000 in
theorem newleaf_b (i x0 y0 x1 y1 : Int) (w : World) : Calls Try.prog 59 #[.int .i64 i, .agg #[.int .i64 x0, .int .i64 y0, .int .i64 x1, .int .i64 y1]] w fun e w' => e = .returned (.pointer (some ⟨w.heap.size + 1, 0, none⟩)) ∧ blk w' (w.heap.size + 1) (ndc ⟨i, ⟨x0, y0, x1, y1⟩, 1, none, none, none⟩) 89 ∧ Below w.heap.size w w' := by
  simp only [ndc, nptr_none]
  go_enter Try.func59, Try.ntmps59
  go_wp2_with fail
  go_ret
  exact ⟨rfl, bBkn, bBel⟩

set_option maxRecDepth 100000 in
set_option maxHeartbeats 4000000 in
theorem len_b (a : Nat) (L : Bxs) (S : Nat → Prop) (w : World) (h : TreeAt w a L S) : Calls Try.prog 26 #[.pointer (some ⟨a, 0, none⟩)] w fun e w' => e = .returned (.int .i64 (L.length : Int)) ∧ Below w.heap.size w w' := by
  obtain ⟨T, mb, F, M, N, kt, m2, m3, m4, m5, m6, m7⟩ := h.mem
  have hl := fun ty => mapat_len m6 ty
  clear m2 m3 m4 m5 m6 m7 h
  generalize nptr (T.map Tr.b) = root at *
  generalize L.length = n at *
  have okt := blk_older kt
  have ckt_0 : _ = some _ := blk_cell kt 0
  have ckt_1 : _ = some _ := blk_cell kt 1
  have fkt_0 := blk_free kt 0
  have fkt_1 := blk_free kt 1
  go_enter Try.func26, Try.ntmps26
  go_wp2_with fail
  go_ret
  exact ⟨rfl, bBel⟩

set_option maxRecDepth 100000 in
set_option maxHeartbeats 4000000 in
theorem len0_b (w : World) : Calls Try.prog 26 #[.pointer none] w fun e w' => e = .returned (.int .i64 0) ∧ Below w.heap.size w w' := by
  go_enter Try.func26, Try.ntmps26
  go_wp2_with fail
  go_ret
  exact ⟨rfl, bBel⟩

/-- What the height of a tree of n boxes may be. -/
def HtOk (n : Nat) (h : Int) : Prop := 0 ≤ h ∧ (n = 0 → h = 0) ∧ (n ≠ 0 → 1 ≤ h ∧ (h = 1 → n = 1) ∧ (n = 1 → h = 1) ∧ (n : Int) ≤ (2 ^ (h.toNat - 1) : Nat) ∧ h ≤ n ∧ ∀ k : Nat, 2 * (k : Int) + 1 ≤ h → 2 ^ k ≤ n)
theorem ht_ok (T : Tr) (h : T.bal) : HtOk T.lv.length (T.ht : Int) := by
  have p1 := T.ht_pos; have p2 := T.lv_pos; have p3 := T.ht_lv; have p4 := T.lv_le
  refine ⟨by omega, fun h => by omega, fun _ => ⟨by omega, fun e => ?_, fun e => ?_, ?_, by omega, fun k hk => ?_⟩⟩
  · have : T.ht = 1 := by omega
    rw [this] at p4; simp at p4; omega
  · omega
  · rw [Int.toNat_natCast]; exact Int.ofNat_le.2 p4
  · have := T.lv_ge k h (by omega); omega

theorem TreeAt.find {w : World} {a : Nat} {L : Bxs} {S : Nat → Prop} {T : Option Tr} {F : Int → Option Nat} {M : Nat → Nd} (h : TreeAt w a L S) (m7 : OTop M T) (m9 : ((olv T).map (·.2)).Perm L) (m10 : ∀ i c, F i = some c ↔ ∃ x, (c, i, x) ∈ olv T) (i : Int) :
    (F i = none ∧ look L i = none) ∨ ∃ c x, F i = some c ∧ look L i = some x ∧ (c, i, x) ∈ olv T ∧ (M c).x = x ∧ (M c).id = i ∧ (M c).h = 1 ∧ c ∈ obs T := by
  cases hF : F i with
  | none =>
    refine .inl ⟨rfl, look_none.2 fun e he hi => ?_⟩
    obtain ⟨y, hy, rfl⟩ := List.mem_map.1 (m9.mem_iff.2 he)
    have := (m10 i y.1).2 ⟨y.2.2, by rw [← hi]; exact hy⟩
    rw [hF] at this; cases this
  | some c =>
    obtain ⟨x, hx⟩ := (m10 i c).1 hF
    have hm : (i, x) ∈ L := m9.mem_iff.1 (List.mem_map.2 ⟨_, hx, rfl⟩)
    cases T with
    | none => simp [olv] at hx
    | some T =>
      obtain ⟨C, hC⟩ := leaf_way T _ hx
      have hl := (plug_lay C _ (hC ▸ m7.1) (hC ▸ m7.2.1)).1
      exact .inr ⟨c, x, rfl, (look_some h.srt).2 hm, hx, hl.2.1, hl.1, hl.2.2, T.lv_bs _ hx⟩

end Go.Proofs.Ytfhhkabdeajieaa
