/- Chapter 20: a tree in memory, as the list of its boxes by ID. -/
import Derived.Test.YtfhhkabdeajieaaBvP
import Derived.Test.YtfhhkabdeajieaaBvQ
set_option linter.unusedVariables false
set_option linter.unusedSimpArgs false
namespace Go.Proofs.Ytfhhkabdeajieaa
open Go.RowKit Fx

def olv : Option Tr → List (Nat × Int × Bx)
  | none => []
  | some T => T.lv
def obs : Option Tr → List Nat
  | none => []
  | some T => T.bs
def OTop (M : Nat → Nd) : Option Tr → Prop
  | none => True
  | some T => Top M T

theorem attach_b (t lf : Nat) (mv : Value) (M : Nat → Nd) (N : Nat → Prop) (w : World) (T : Option Tr) (hR : Rep w M N) (kt : blk w t #[nptr (T.map Tr.b), mv] 78) (tN : ¬ N t) (slf : N lf) (hT : OTop M T) (hS : ∀ c ∈ obs T, N c) (hlf : lf ∉ obs T) (hN : (olv T).length ≤ 100000) (h0 : T = none → (M lf).p = none) (i : Int) (x : Bx) (h1 : (M lf).id = i) (h2 : (M lf).x = x) (h3 : (M lf).h = 1) :
    Calls Try.prog 60 #[.pointer (some ⟨t, 0, none⟩), .pointer (some ⟨lf, 0, none⟩)] w fun e w' => e = .returned (.tuple #[]) ∧ ∃ (T' : Tr) (M' : Nat → Nd) (N' : Nat → Prop), Rep w' M' N' ∧ blk w' t #[nptr (some T'.b), mv] 78 ∧ But (fun k => k = t ∨ N k) w w' ∧ Top M' T' ∧ (∀ c ∈ T'.bs, N' c) ∧ T'.lv.Perm (olv T ++ [(lf, i, x)]) ∧ (∀ k, N' k → N k ∨ w.heap.size ≤ k) := by
  cases T with
  | none =>
    refine (attach0 t lf mv M N w hR kt tN slf i x h1 h2 h3 (h0 rfl)).mono ?_
    rintro e w' ⟨rfl, T', M', r1, r2, r3, r4, r5, r6, r7, r8, r9, r10⟩
    exact ⟨rfl, T', M', N, r1, r2, r3, ⟨r4, r5, r6, r9⟩, fun c hc => by have := r8.mem_iff.1 hc; simp at this; exact this ▸ slf, r7, fun k h => .inl h⟩
  | some T =>
    refine (attach1 t lf mv M N w T hR kt tN slf hT hS hlf hN i x h1 h2 h3).mono ?_
    rintro e w' ⟨rfl, F, hF, T', M', r1, r2, r3, r4, r5, r6, r7, r8, r9, r10⟩
    refine ⟨rfl, T', M', _, r1, r2, r3.mono ?_, ⟨r4, r5, r6, r9⟩, fun c hc => ?_, r7, ?_⟩
    · rintro k hk (h | h | rfl)
      · exact .inl h
      · exact .inr h
      · omega
    · have := r8.mem_iff.1 hc
      simp only [List.mem_cons] at this
      rcases this with h | h | h
      · exact .inr h
      · exact .inl (h ▸ slf)
      · exact .inl (hS c h)
    · rintro k (h | rfl)
      · exact .inl h
      · exact .inr hF

theorem detach_b (t lf : Nat) (mv : Value) (M : Nat → Nd) (N : Nat → Prop) (w : World) (T : Tr) (i : Int) (x : Bx) (hR : Rep w M N) (kt : blk w t #[nptr (some T.b), mv] 78) (tN : ¬ N t) (hT : Top M T) (hS : ∀ c ∈ T.bs, N c) (hN : T.lv.length ≤ 100000) (hlf : (lf, i, x) ∈ T.lv) :
    Calls Try.prog 61 #[.pointer (some ⟨t, 0, none⟩), .pointer (some ⟨lf, 0, none⟩)] w fun e w' => e = .returned (.tuple #[]) ∧ ∃ (T' : Option Tr) (M' : Nat → Nd), Rep w' M' N ∧ blk w' t #[nptr (T'.map Tr.b), mv] 78 ∧ But (fun k => k = t ∨ N k) w w' ∧ OTop M' T' ∧ (∀ c ∈ obs T', N c) ∧ T.lv.Perm ((lf, i, x) :: olv T') ∧ lf ∉ obs T' ∧ M' lf = M lf ∧ (T' = none → (M lf).p = none) := by
  obtain ⟨C, hC⟩ := leaf_way T _ hlf
  dsimp only at hC
  cases C with
  | nil =>
    simp only [plug] at hC
    subst hC
    refine (detach0 t lf mv _ M N w hR kt (hS lf (by simp [Tr.bs])) hT.2.1).mono ?_
    rintro e w' ⟨rfl, h1, h2⟩
    exact ⟨rfl, none, M, fun c hc => h2.blk (hR c hc) (fun e => tN (e ▸ hc)), h1, h2.mono fun _ _ h => .inl h, trivial, by simp [obs], by simp [olv, Tr.lv], by simp [obs], rfl, fun _ => hT.2.1⟩
  | cons f C =>
    have hd := det_st (hC ▸ hT)
    have hp := plug_bs (f :: C) (.leaf lf i x)
    have hl := plug_lv (f :: C) (.leaf lf i x)
    rw [← hC] at hp hl
    refine (detach1 t lf mv M N w C f i x hR (hC ▸ kt) tN (hC ▸ hT) (hC ▸ hS) (hC ▸ hN)).mono ?_
    rintro e w' ⟨rfl, T', M', r1, r2, r3, r4, r5, r6, r7, r8, r9, r10⟩
    have hlf2 : lf ∉ f.s.bs ++ cbs C := by simp only [List.mem_append, not_or]; exact ⟨hd.2.2.2.2.2.2.2.2.1, hd.2.2.2.2.2.2.2.1⟩
    refine ⟨rfl, some T', M', r1, r2, r3, ⟨r4, r5, r6, r9⟩, fun c hc => hS c (hp.mem_iff.2 ?_), ?_, fun h => hlf2 (r8.mem_iff.1 h), r10 lf hlf2, fun h => by cases h⟩
    · have := r8.mem_iff.1 hc
      simp only [cbs, List.mem_append, List.mem_cons] at this ⊢
      rcases this with h | h <;> simp [h]
    · refine hl.trans ?_
      refine List.Perm.trans ?_ (r7.symm.cons _)
      exact List.perm_append_comm

/-! The tree as a list of IDs and boxes. -/
abbrev Bxs := List (Int × Bx)
def look (L : Bxs) (i : Int) : Option Bx := (L.find? fun e => e.1 == i).map (·.2)
def remL (L : Bxs) (i : Int) : Bxs := L.filter fun e => !(e.1 == i)
def insL : Bxs → Int → Bx → Bxs
  | [], i, x => [(i, x)]
  | e :: L, i, x => if e.1 < i then e :: insL L i x else (i, x) :: e :: L
def Srt (L : Bxs) : Prop := L.Pairwise fun a b => a.1 < b.1

theorem insL_perm (i : Int) (x : Bx) : ∀ L : Bxs, (insL L i x).Perm ((i, x) :: L)
  | [] => List.Perm.refl _
  | e :: L => by
    unfold insL; split
    · exact ((insL_perm i x L).cons e).trans (List.Perm.swap _ _ _)
    · exact List.Perm.refl _
theorem insL_srt {i : Int} (x : Bx) : ∀ {L : Bxs}, Srt L → (∀ e ∈ L, e.1 ≠ i) → Srt (insL L i x)
  | [], _, _ => by simp [insL, Srt]
  | e :: L, h, hn => by
    have h' := List.pairwise_cons.1 h
    unfold insL; split
    · rename_i hlt
      refine List.pairwise_cons.2 ⟨fun y hy => ?_, insL_srt x h'.2 fun y hy => hn y (by simp [hy])⟩
      rcases List.mem_cons.1 ((insL_perm i x L).mem_iff.1 hy) with rfl | hy
      · exact hlt
      · exact h'.1 y hy
    · rename_i hlt
      have hne := hn e (by simp)
      refine List.pairwise_cons.2 ⟨fun y hy => ?_, h⟩
      rcases List.mem_cons.1 hy with rfl | hy
      · show i < y.1; omega
      · have := h'.1 y hy; show i < y.1; omega
theorem remL_srt {L : Bxs} (h : Srt L) (i : Int) : Srt (remL L i) := h.filter _
theorem srt_nodup {L : Bxs} (h : Srt L) : (L.map (·.1)).Nodup := by
  rw [List.nodup_iff_pairwise_ne, List.pairwise_map]
  exact h.imp fun h => by omega
theorem look_some {L : Bxs} (h : Srt L) {i : Int} {x : Bx} : look L i = some x ↔ (i, x) ∈ L := by
  unfold look
  constructor
  · intro e
    obtain ⟨y, hy, rfl⟩ := Option.map_eq_some_iff.1 e
    have h1 := List.mem_of_find?_eq_some hy
    have h2 := List.find?_some hy
    simp only [beq_iff_eq] at h2
    subst h2; exact h1
  · intro hm
    induction L with
    | nil => simp at hm
    | cons e L ih =>
      have h' := List.pairwise_cons.1 h
      rcases List.mem_cons.1 hm with rfl | hm
      · simp
      · have := h'.1 _ hm
        rw [List.find?_cons]
        have hne : (e.1 == i) = false := by simp only [beq_eq_false_iff_ne]; simp only at this; omega
        rw [hne]
        exact ih h'.2 hm
theorem look_none {L : Bxs} {i : Int} : look L i = none ↔ ∀ e ∈ L, e.1 ≠ i := by
  unfold look
  simp [List.find?_eq_none]
/-- Two sorted lists of the same boxes are one. -/
theorem srt_ext : ∀ {L L' : Bxs}, Srt L → Srt L' → L.Perm L' → L = L'
  | L, L', h, h', hp => List.Perm.eq_of_pairwise (le := fun a b : Int × Bx => a.1 < b.1) (fun a b _ _ h1 h2 => by omega) h h' hp

/-- The memory at a is a tree of these boxes; its blocks are among S. -/
structure TreeAt (w : World) (a : Nat) (L : Bxs) (S : Nat → Prop) : Prop where
  lt : ∀ k, S k → k < w.heap.size
  sa : S a
  srt : Srt L
  keys : ∀ e ∈ L, i64k e.1
  vals : ∀ e ∈ L, e.2.val = true
  len : L.length ≤ 4096
  mem : ∃ (T : Option Tr) (mb : Option Nat) (F : Int → Option Nat) (M : Nat → Nd) (N : Nat → Prop), blk w a #[nptr (T.map Tr.b), .map mb] 78 ∧ Rep w M N ∧ (∀ k, N k → S k) ∧ ¬ N a ∧ (∀ b, mb = some b → S b ∧ ¬ N b ∧ b ≠ a) ∧ MapAt w mb F L.length ∧ OTop M T ∧ (∀ b ∈ obs T, N b) ∧ ((olv T).map (·.2)).Perm L ∧ (∀ i c, F i = some c ↔ ∃ x, (c, i, x) ∈ olv T)

theorem Rep.but {w w' : World} {M : Nat → Nd} {N S : Nat → Prop} (h : Rep w M N) (hb : But S w w') (hd : ∀ k, N k → ¬ S k) : Rep w' M N := fun c hc => hb.blk (h c hc) (hd c hc)

theorem TreeAt.but {w w' : World} {a : Nat} {L : Bxs} {S S2 : Nat → Prop} (h : TreeAt w a L S) (hb : But S2 w w') (hd : ∀ k, S k → ¬ S2 k) : TreeAt w' a L S := by
  obtain ⟨h1, h2, h3, h4, h5, h6, T, mb, F, M, N, m1, m2, m3, m4, m5, m6, m7⟩ := h
  exact ⟨fun k hk => Nat.lt_of_lt_of_le (h1 k hk) hb.size, h2, h3, h4, h5, h6, T, mb, F, M, N, hb.blk m1 (hd a h2), m2.but hb (fun k hk => hd k (m3 k hk)), m3, m4, m5, mapat_but m6 hb (fun b e => hd b (m5 b e).1), m7⟩
theorem But.ofBelow {w w' : World} (h : Below w.heap.size w w') (S : Nat → Prop) : But S w w' := (But.refl S w).below h
theorem TreeAt.below {w w' : World} {a : Nat} {L : Bxs} {S : Nat → Prop} (h : TreeAt w a L S) (hb : Below w.heap.size w w') : TreeAt w' a L S := h.but (But.ofBelow hb fun _ => False) fun _ _ h => h

end Go.Proofs.Ytfhhkabdeajieaa
