/- Chapter 21, mathematics: the entries that count, their order, their pairs, the sweep.
Chapter 21: entries, pairs and operations in slices: what their cells say. -/
import Derived.Test.YtaahgblkmajceaaGreatBg2
import Derived.Test.YtaahgblkmajceaaGreatChecked

set_option linter.unusedVariables false
set_option linter.unusedSimpArgs false
namespace Go.Proofs.YtaahgblkmajceaaGreat
open Go.RowKit Fx

/-! ### Lists that are sorted by a strict order -/
theorem sp_ext {α : Type} {lt : α → α → Prop} (hi : ∀ a, ¬ lt a a) (ht : ∀ a b c, lt a b → lt b c → lt a c) {l l' : List α} (h : l.Pairwise lt) (h' : l'.Pairwise lt) (hm : ∀ x, x ∈ l ↔ x ∈ l') : l = l' := by
  have n1 : l.Nodup := List.nodup_iff_pairwise_ne.2 (h.imp fun {a b} h (e : a = b) => hi a (by rw [← e] at h; exact h))
  have n2 : l'.Nodup := List.nodup_iff_pairwise_ne.2 (h'.imp fun {a b} h (e : a = b) => hi a (by rw [← e] at h; exact h))
  exact List.Perm.eq_of_pairwise (le := lt) (fun a b _ _ h1 h2 => (hi a (ht a b a h1 h2)).elim) h h' ((List.perm_ext_iff_of_nodup n1 n2).2 hm)

theorem cnt_pre {α : Type} {p : α → Bool} : ∀ {l : List α}, (l.Pairwise fun a b => p b = true → p a = true) → ∀ (i : Nat) (h : i < l.length), i < l.countP p ↔ p l[i] = true
  | [], _, i, h => by simp at h
  | a :: r, hp, i, h => by
    have hc := List.pairwise_cons.1 hp
    cases i with
    | zero =>
      simp only [List.getElem_cons_zero, List.countP_cons]
      by_cases ha : p a = true
      · simp [ha]
      · have : r.countP p = 0 := List.countP_eq_zero.2 fun b hb h => ha (hc.1 b hb h)
        simp [ha, this]
    | succ i =>
      simp only [List.length_cons] at h
      have ih := cnt_pre hc.2 i (by omega)
      simp only [List.getElem_cons_succ, List.countP_cons]
      by_cases ha : p a = true
      · rw [if_pos ha, ← ih]; omega
      · have hz : r.countP p = 0 := List.countP_eq_zero.2 fun b hb h => ha (hc.1 b hb h)
        rw [if_neg ha, hz]
        constructor
        · omega
        · intro h2; exact (ha (hc.1 _ (List.getElem_mem _) h2)).elim

/-! ### The entries that count -/
def stepC (out : Bxs) (e : Int × Bx) : Bxs := if e.2.val = true ∧ ∀ x ∈ out, x.1 ≠ e.1 then out ++ [e] else out
def cnt (l : Bxs) : Bxs := l.foldl stepC []
theorem cnt_nil : cnt [] = [] := rfl
theorem cnt_snoc (l : Bxs) (e : Int × Bx) : cnt (l ++ [e]) = stepC (cnt l) e := by simp [cnt]
theorem cnt_take {l : Bxs} {k : Nat} (h : k < l.length) : cnt (l.take (k + 1)) = stepC (cnt (l.take k)) l[k] := by rw [← cnt_snoc, List.take_append_getElem h]
theorem fold_ind {P : Bxs → Prop} : ∀ (l out : Bxs), P out → (∀ o e, e ∈ l → P o → P (stepC o e)) → P (l.foldl stepC out)
  | [], _, h, _ => h
  | e :: l, out, h, hs => by
    simp only [List.foldl_cons]
    exact fold_ind l _ (hs out e (by simp) h) fun o e he => hs o e (by simp [he])
theorem stepC_yes {out : Bxs} {e : Int × Bx} (h1 : e.2.val = true) (h2 : ∀ x ∈ out, x.1 ≠ e.1) : stepC out e = out ++ [e] := if_pos ⟨h1, h2⟩
theorem stepC_no {out : Bxs} {e : Int × Bx} (h : e.2.val = false ∨ ∃ x ∈ out, x.1 = e.1) : stepC out e = out := if_neg fun ⟨a, b⟩ => by
  rcases h with h | ⟨x, hx, h⟩
  · rw [h] at a; cases a
  · exact b x hx h
theorem stepC_len (out : Bxs) (e : Int × Bx) : (stepC out e).length ≤ out.length + 1 := by unfold stepC; split <;> simp
theorem cnt_take_len (l : Bxs) : ∀ k, (cnt (l.take k)).length ≤ k
  | 0 => by simp [cnt]
  | k + 1 => by
    by_cases h : k < l.length
    · rw [cnt_take h]; have := stepC_len (cnt (l.take k)) l[k]; have := cnt_take_len l k; omega
    · rw [List.take_of_length_le (by omega)]; have := cnt_take_len l k; rw [List.take_of_length_le (by omega)] at this; omega
theorem cnt_len (l : Bxs) : (cnt l).length ≤ l.length := by have := cnt_take_len l l.length; rwa [List.take_length] at this
theorem cnt_mem {l : Bxs} : ∀ e ∈ cnt l, e ∈ l := fold_ind (P := fun o => ∀ e ∈ o, e ∈ l) l [] (by simp) fun o e he h x hx => by
  unfold stepC at hx; split at hx
  · rcases List.mem_append.1 hx with hx | hx
    · exact h x hx
    · simp at hx; subst hx; exact he
  · exact h x hx
theorem cnt_vals {l : Bxs} : ∀ e ∈ cnt l, e.2.val = true := fold_ind (P := fun o => ∀ e ∈ o, e.2.val = true) l [] (by simp) fun o e he h x hx => by
  unfold stepC at hx; split at hx
  · rename_i hc
    rcases List.mem_append.1 hx with hx | hx
    · exact h x hx
    · simp at hx; subst hx; exact hc.1
  · exact h x hx
def Dst (l : Bxs) : Prop := l.Pairwise fun a b => a.1 ≠ b.1
theorem Dst.nodup {l : Bxs} (h : Dst l) : l.Nodup := List.nodup_iff_pairwise_ne.2 (h.imp fun {a b} h e => h (congrArg Prod.fst e))
theorem Dst.perm {l l' : Bxs} (h : Dst l) (hp : l.Perm l') : Dst l' := hp.pairwise h (fun h => h.symm)
theorem Dst.inj {l : Bxs} (h : Dst l) {a b : Int × Bx} (ha : a ∈ l) (hb : b ∈ l) (e : a.1 = b.1) : a = b := by
  induction l with
  | nil => simp at ha
  | cons c l ih =>
    have hc := List.pairwise_cons.1 h
    rcases List.mem_cons.1 ha with h1 | h1 <;> rcases List.mem_cons.1 hb with h2 | h2
    · rw [h1, h2]
    · rw [h1] at e; exact (hc.1 b h2 e).elim
    · rw [h2] at e; exact (hc.1 a h1 e.symm).elim
    · exact ih hc.2 h1 h2
theorem cnt_dst (l : Bxs) : Dst (cnt l) := fold_ind (P := Dst) l [] List.Pairwise.nil fun o e he h => by
  unfold stepC; split
  · rename_i hc
    refine List.pairwise_append.2 ⟨h, by simp, fun a ha b hb => ?_⟩
    simp at hb; subst hb; exact hc.2 a ha
  · exact h
theorem cnt_filter : ∀ {l : Bxs}, Dst l → cnt l = l.filter fun e => e.2.val := by
  have key : ∀ (l out : Bxs), Dst l → (∀ e ∈ l, ∀ x ∈ out, x.1 ≠ e.1) → l.foldl stepC out = out ++ l.filter fun e => e.2.val := by
    intro l
    induction l with
    | nil => intro out _ _; simp
    | cons e l ih =>
      intro out h ho
      have hc := List.pairwise_cons.1 h
      simp only [List.foldl_cons]
      rw [ih _ hc.2 fun f hf x hx => by
        unfold stepC at hx; split at hx
        · rcases List.mem_append.1 hx with hx | hx
          · exact ho f (by simp [hf]) x hx
          · simp at hx; subst hx; exact hc.1 f hf
        · exact ho f (by simp [hf]) x hx]
      by_cases hv : e.2.val = true
      · rw [stepC_yes hv (ho e (by simp)), List.filter_cons_of_pos (by exact hv)]; simp
      · rw [stepC_no (.inl (by simpa using hv)), List.filter_cons_of_neg (by exact hv)]
  intro l h
  have := key l [] h (by simp)
  simpa [cnt] using this
theorem cnt_perm {l m : Bxs} (h : l.Perm m) (hd : Dst l) : (cnt l).Perm (cnt m) := by
  rw [cnt_filter hd, cnt_filter (hd.perm h)]; exact h.filter _

/-! ### The order of the entries -/
def ltE (a b : Int × Bx) : Prop := a.2.x0 < b.2.x0 ∨ a.2.x0 = b.2.x0 ∧ a.1 < b.1
instance (a b : Int × Bx) : Decidable (ltE a b) := by unfold ltE; infer_instance
theorem ltE_irr (a : Int × Bx) : ¬ ltE a a := by unfold ltE; omega
theorem ltE_trans (a b c : Int × Bx) (h : ltE a b) (k : ltE b c) : ltE a c := by unfold ltE at *; omega
def insE : Bxs → Int × Bx → Bxs
  | [], e => [e]
  | x :: r, e => if ltE x e then x :: insE r e else e :: x :: r
theorem insE_perm (e : Int × Bx) : ∀ L : Bxs, (insE L e).Perm (e :: L)
  | [] => List.Perm.refl _
  | x :: L => by
    unfold insE; split
    · exact ((insE_perm e L).cons x).trans (List.Perm.swap _ _ _)
    · exact List.Perm.refl _
theorem insE_srt {e : Int × Bx} : ∀ {L : Bxs}, L.Pairwise ltE → (∀ x ∈ L, x.1 ≠ e.1) → (insE L e).Pairwise ltE
  | [], _, _ => by simp [insE]
  | x :: L, h, hn => by
    have h' := List.pairwise_cons.1 h
    unfold insE; split
    · rename_i hlt
      refine List.pairwise_cons.2 ⟨fun y hy => ?_, insE_srt h'.2 fun y hy => hn y (by simp [hy])⟩
      rcases List.mem_cons.1 ((insE_perm e L).mem_iff.1 hy) with rfl | hy
      · exact hlt
      · exact h'.1 y hy
    · rename_i hlt
      have hne := hn x (by simp)
      have hex : ltE e x := by unfold ltE at *; omega
      refine List.pairwise_cons.2 ⟨fun y hy => ?_, h⟩
      rcases List.mem_cons.1 hy with rfl | hy
      · exact hex
      · exact ltE_trans _ _ _ hex (h'.1 y hy)
theorem insE_at {e : Int × Bx} : ∀ {L : Bxs} {k : Nat}, k ≤ L.length → (∀ i (h : i < L.length), i < k → ltE L[i] e) → (∀ h : k < L.length, ¬ ltE L[k] e) → insE L e = L.take k ++ e :: L.drop k
  | [], k, _, _, _ => by simp [insE]
  | x :: L, 0, _, _, h => by
    have := h (by simp)
    simp only [List.getElem_cons_zero] at this
    simp [insE, this]
  | x :: L, k + 1, hk, hl, hr => by
    have h0 := hl 0 (by simp) (by omega)
    simp only [List.getElem_cons_zero] at h0
    simp only [List.length_cons] at hk
    have := insE_at (L := L) (k := k) (e := e) (by omega) (fun i h hi => by have := hl (i + 1) (by simp; omega) (by omega); simpa using this) (fun h => by have := hr (by simp; omega); simpa using this)
    simp [insE, h0, this]
def srE (c : Bxs) : Bxs := c.foldl insE []
theorem srE_snoc (c : Bxs) (e : Int × Bx) : srE (c ++ [e]) = insE (srE c) e := by simp [srE]
theorem srE_take {c : Bxs} {k : Nat} (h : k < c.length) : srE (c.take (k + 1)) = insE (srE (c.take k)) c[k] := by rw [← srE_snoc, List.take_append_getElem h]
theorem srE_both : ∀ (c : Bxs) (o : Bxs), o.Pairwise ltE → Dst (o ++ c) → (c.foldl insE o).Pairwise ltE ∧ (c.foldl insE o).Perm (o ++ c)
  | [], o, h, _ => ⟨h, by simp⟩
  | e :: c, o, h, hd => by
    have hp : (insE o e ++ c).Perm (o ++ e :: c) := by
      refine ((insE_perm e o).append_right c).trans ?_
      simp only [List.cons_append]
      exact List.perm_middle.symm
    have hd' := List.pairwise_append.1 hd
    obtain ⟨a, b⟩ := srE_both c (insE o e) (insE_srt h fun x hx => hd'.2.2 x hx e (by simp)) (hd.perm hp.symm)
    exact ⟨a, b.trans hp⟩
theorem srE_srt {c : Bxs} (h : Dst c) : (srE c).Pairwise ltE := (srE_both c [] List.Pairwise.nil (by simpa using h)).1
theorem srE_perm {c : Bxs} (h : Dst c) : (srE c).Perm c := by simpa [srE] using (srE_both c [] List.Pairwise.nil (by simpa using h)).2
theorem srE_len {c : Bxs} (h : Dst c) : (srE c).length = c.length := (srE_perm h).length_eq
theorem srE_eq {c p : Bxs} (h : Dst c) (hp : p.Perm c) (hs : p.Pairwise fun a b => ¬ ltE b a) : p = srE c := by
  have hd : Dst p := h.perm hp.symm
  have h2 : p.Pairwise ltE := (hs.and hd).imp fun {a b} ⟨h1, h2⟩ => by unfold ltE at *; omega
  exact sp_ext ltE_irr ltE_trans h2 (srE_srt h) fun x => hp.mem_iff.trans (srE_perm h).mem_iff.symm
theorem srE_cnt_perm {l m : Bxs} (h : l.Perm m) (hd : Dst l) : srE (cnt l) = srE (cnt m) :=
  sp_ext ltE_irr ltE_trans (srE_srt (cnt_dst l)) (srE_srt (cnt_dst m)) fun x => (srE_perm (cnt_dst l)).mem_iff.trans ((cnt_perm h hd).mem_iff.trans (srE_perm (cnt_dst m)).mem_iff.symm)

/-! ### Pairs -/
def ltP (a b : Int × Int) : Prop := a.1 < b.1 ∨ a.1 = b.1 ∧ a.2 < b.2
instance (a b : Int × Int) : Decidable (ltP a b) := by unfold ltP; infer_instance
theorem ltP_irr (a : Int × Int) : ¬ ltP a a := by unfold ltP; omega
theorem ltP_trans (a b c : Int × Int) (h : ltP a b) (k : ltP b c) : ltP a c := by unfold ltP at *; omega
theorem ltP_or (a b : Int × Int) : ltP a b ∨ a = b ∨ ltP b a := by
  obtain ⟨a1, a2⟩ := a
  obtain ⟨b1, b2⟩ := b
  simp only [ltP, Prod.mk.injEq]; omega
abbrev SrtP (l : List (Int × Int)) : Prop := l.Pairwise ltP
theorem srtP_ext {l l' : List (Int × Int)} (h : SrtP l) (h' : SrtP l') (hm : ∀ x, x ∈ l ↔ x ∈ l') : l = l' := sp_ext ltP_irr ltP_trans h h' hm
def insP : List (Int × Int) → Int × Int → List (Int × Int)
  | [], p => [p]
  | x :: r, p => if ltP x p then x :: insP r p else if x = p then x :: r else p :: x :: r
theorem insP_mem {p x : Int × Int} : ∀ {L : List (Int × Int)}, x ∈ insP L p ↔ x = p ∨ x ∈ L
  | [] => by simp [insP]
  | y :: L => by
    have ih := insP_mem (p := p) (x := x) (L := L)
    unfold insP; split
    · rw [List.mem_cons, ih, List.mem_cons]
      exact ⟨fun h => h.elim (fun h => .inr (.inl h)) fun h => h.elim .inl fun h => .inr (.inr h), fun h => h.elim (fun h => .inr (.inl h)) fun h => h.elim .inl fun h => .inr (.inr h)⟩
    · split
      · rename_i h; subst h; simp
      · simp
theorem insP_srt {p : Int × Int} : ∀ {L : List (Int × Int)}, SrtP L → SrtP (insP L p)
  | [], _ => by simp [insP]
  | x :: L, h => by
    have h' := List.pairwise_cons.1 h
    unfold insP; split
    · rename_i hlt
      refine List.pairwise_cons.2 ⟨fun y hy => ?_, insP_srt h'.2⟩
      rcases insP_mem.1 hy with rfl | hy
      · exact hlt
      · exact h'.1 y hy
    · rename_i hlt
      split
      · exact h
      · rename_i hne
        have hpx : ltP p x := by rcases ltP_or x p with h | h | h; exact (hlt h).elim; exact (hne h).elim; exact h
        refine List.pairwise_cons.2 ⟨fun y hy => ?_, h⟩
        rcases List.mem_cons.1 hy with rfl | hy
        · exact hpx
        · exact ltP_trans _ _ _ hpx (h'.1 y hy)
theorem insP_at {p : Int × Int} : ∀ {L : List (Int × Int)} {k : Nat}, k ≤ L.length → (∀ i (h : i < L.length), i < k → ltP L[i] p) → (∀ h : k < L.length, ¬ ltP L[k] p) → insP L p = if L[k]? = some p then L else L.take k ++ p :: L.drop k
  | [], k, _, _, _ => by simp [insP]
  | x :: L, 0, _, _, h => by
    have := h (by simp)
    simp only [List.getElem_cons_zero] at this
    simp [insP, this]
  | x :: L, k + 1, hk, hl, hr => by
    have h0 := hl 0 (by simp) (by omega)
    simp only [List.getElem_cons_zero] at h0
    simp only [List.length_cons] at hk
    have := insP_at (L := L) (k := k) (p := p) (by omega) (fun i h hi => by have := hl (i + 1) (by simp; omega) (by omega); simpa using this) (fun h => by have := hr (by simp; omega); simpa using this)
    simp only [insP, h0, if_true, this, List.getElem?_cons_succ]
    split <;> simp
theorem insP_len (p : Int × Int) : ∀ L : List (Int × Int), (insP L p).length ≤ L.length + 1
  | [] => by simp [insP]
  | x :: L => by
    have := insP_len p L
    unfold insP; split
    · simp; omega
    · split <;> simp
def mrg (l : List (Int × Int)) : List (Int × Int) := l.foldl insP []
theorem mrg_snoc (l : List (Int × Int)) (p : Int × Int) : mrg (l ++ [p]) = insP (mrg l) p := by simp [mrg]
theorem mrg_both : ∀ (l o : List (Int × Int)), SrtP o → SrtP (l.foldl insP o) ∧ ∀ x, x ∈ l.foldl insP o ↔ x ∈ o ∨ x ∈ l
  | [], o, h => ⟨h, fun x => by simp⟩
  | p :: l, o, h => by
    obtain ⟨a, b⟩ := mrg_both l (insP o p) (insP_srt h)
    refine ⟨a, fun x => ?_⟩
    simp only [List.foldl_cons]
    rw [b, insP_mem, List.mem_cons]
    exact ⟨fun h => h.elim (fun h => h.elim (fun h => .inr (.inl h)) .inl) fun h => .inr (.inr h), fun h => h.elim (fun h => .inl (.inr h)) fun h => h.elim (fun h => .inl (.inl h)) .inr⟩
theorem mrg_srt (l : List (Int × Int)) : SrtP (mrg l) := (mrg_both l [] List.Pairwise.nil).1
theorem mrg_mem {l : List (Int × Int)} {x : Int × Int} : x ∈ mrg l ↔ x ∈ l := by simpa [mrg] using (mrg_both l [] List.Pairwise.nil).2 x
theorem mrg_len_fold : ∀ (l o : List (Int × Int)), (l.foldl insP o).length ≤ o.length + l.length
  | [], o => by simp
  | p :: l, o => by
    have := mrg_len_fold l (insP o p)
    have := insP_len p o
    simp only [List.foldl_cons, List.length_cons]; omega
theorem mrg_len (l : List (Int × Int)) : (mrg l).length ≤ l.length := by simpa [mrg] using mrg_len_fold l []
theorem mrg_take_len (l : List (Int × Int)) (k : Nat) : (mrg (l.take k)).length ≤ l.length := Nat.le_trans (mrg_len _) (by rw [List.length_take]; omega)
theorem mrg_take {l : List (Int × Int)} {k : Nat} (h : k < l.length) : mrg (l.take (k + 1)) = insP (mrg (l.take k)) l[k] := by rw [← mrg_snoc, List.take_append_getElem h]
def sbt (a b : List (Int × Int)) : List (Int × Int) := a.filter fun p => !(b.contains p)
theorem sbt_mem {a b : List (Int × Int)} {x : Int × Int} : x ∈ sbt a b ↔ x ∈ a ∧ x ∉ b := by simp [sbt]
theorem mrg_sbt (a b : List (Int × Int)) : mrg (mrg (sbt a b) ++ b) = mrg (a ++ b) := srtP_ext (mrg_srt _) (mrg_srt _) fun x => by
  rw [mrg_mem, mrg_mem, List.mem_append, List.mem_append, mrg_mem, sbt_mem]
  by_cases h : x ∈ b <;> simp [h]
theorem sbt_take_yes {a b : List (Int × Int)} {k : Nat} (h : k < a.length) (hb : a[k] ∉ b) : sbt (a.take (k + 1)) b = sbt (a.take k) b ++ [a[k]] := by
  rw [← List.take_append_getElem h, sbt, sbt, List.filter_append]; simp [hb]
theorem sbt_take_no {a b : List (Int × Int)} {k : Nat} (h : k < a.length) (hb : a[k] ∈ b) : sbt (a.take (k + 1)) b = sbt (a.take k) b := by
  rw [← List.take_append_getElem h, sbt, sbt, List.filter_append]; simp [hb]
theorem sbt_len (a b : List (Int × Int)) : (sbt a b).length ≤ a.length := List.length_filter_le _ _
theorem sbt_take_len (a b : List (Int × Int)) (k : Nat) : (sbt (a.take k) b).length ≤ a.length := Nat.le_trans (sbt_len _ _) (by rw [List.length_take]; omega)

def ddp : List (Int × Int) → List (Int × Int)
  | [] => []
  | [a] => [a]
  | a :: b :: r => if a = b then ddp (b :: r) else a :: ddp (b :: r)
theorem ddp_mem {x : Int × Int} : ∀ {l : List (Int × Int)}, x ∈ ddp l ↔ x ∈ l
  | [] => Iff.rfl
  | [a] => Iff.rfl
  | a :: b :: r => by
    have ih := ddp_mem (x := x) (l := b :: r)
    unfold ddp
    split
    · rename_i h; subst h; rw [ih]; simp
    · rw [List.mem_cons, ih, List.mem_cons (a := x) (b := a)]
theorem ddp_sorted : ∀ {l : List (Int × Int)}, (l.Pairwise fun a b => ¬ ltP b a) → SrtP (ddp l)
  | [], _ => List.Pairwise.nil
  | [a], _ => by simp [ddp]
  | a :: b :: r, h => by
    have hc := List.pairwise_cons.1 h
    have ih := ddp_sorted hc.2
    unfold ddp
    split
    · exact ih
    · rename_i hab
      refine List.pairwise_cons.2 ⟨fun x hx => ?_, ih⟩
      have hx' := ddp_mem.1 hx
      have hab' : ltP a b := by
        rcases ltP_or a b with h | h | h
        · exact h
        · exact absurd h hab
        · exact (hc.1 b (by simp) h).elim
      rcases List.mem_cons.1 hx' with rfl | hr
      · exact hab'
      · rcases ltP_or b x with h | h | h
        · exact ltP_trans _ _ _ hab' h
        · rw [← h]; exact hab'
        · exact ((List.pairwise_cons.1 hc.2).1 x hr h).elim
theorem ddp_snoc : ∀ (l : List (Int × Int)) (y x : Int × Int), l.getLast? = some y → ddp (l ++ [x]) = if y = x then ddp l else ddp l ++ [x]
  | [], y, x, h => by simp at h
  | [a], y, x, h => by
    simp at h; subst h
    show ddp [a, x] = _
    unfold ddp
    split
    · rename_i e; subst e; rfl
    · rfl
  | a :: b :: r, y, x, h => by
    have ih := ddp_snoc (b :: r) y x (by simpa using h)
    simp only [List.cons_append] at ih ⊢
    unfold ddp
    rw [ih]
    split
    · rfl
    · split <;> simp
theorem ddp_len : ∀ (l : List (Int × Int)), (ddp l).length ≤ l.length
  | [] => Nat.le_refl _
  | [a] => Nat.le_refl _
  | a :: b :: r => by
    have := ddp_len (b :: r)
    unfold ddp; split
    · simp only [List.length_cons] at this ⊢; omega
    · simp only [List.length_cons] at this ⊢; omega
theorem ddp_take {ps : List (Int × Int)} {k : Nat} (h0 : 0 < k) (hk : k < ps.length) : ddp (ps.take (k + 1)) = if ps[k - 1] = ps[k] then ddp (ps.take k) else ddp (ps.take k) ++ [ps[k]] := by
  have e : ps.take (k + 1) = ps.take k ++ [ps[k]] := (List.take_append_getElem hk).symm
  rw [e]
  refine ddp_snoc _ _ _ ?_
  rw [List.getLast?_eq_getElem?, List.length_take, Nat.min_eq_left (by omega), List.getElem?_take_of_lt (by omega), List.getElem?_eq_getElem (by omega)]
theorem ddp_mrg {l p : List (Int × Int)} (hs : p.Pairwise fun a b => ¬ ltP b a) (hm : ∀ x, x ∈ p ↔ x ∈ l) : ddp p = mrg l :=
  srtP_ext (ddp_sorted hs) (mrg_srt l) fun x => by rw [ddp_mem, mrg_mem]; exact hm x

/-! ### The overlapping pairs -/
def InP (c : Bxs) (x : Int × Int) : Prop := ∃ e ∈ c, ∃ f ∈ c, e.1 < f.1 ∧ Bx.ovl e.2 f.2 = true ∧ x = (e.1, f.1)
theorem ovl_sym (x y : Bx) : Bx.ovl x y = Bx.ovl y x := by
  unfold Bx.ovl
  cases x.val <;> cases y.val <;> simp
  ac_rfl
theorem InP.congr {c d : Bxs} (h : ∀ e, e ∈ c ↔ e ∈ d) (x : Int × Int) : InP c x ↔ InP d x := by
  unfold InP
  constructor <;> rintro ⟨e, he, f, hf, r⟩
  · exact ⟨e, (h e).1 he, f, (h f).1 hf, r⟩
  · exact ⟨e, (h e).2 he, f, (h f).2 hf, r⟩
theorem mem_prL {L : Bxs} {x : Int × Int} : x ∈ prL L ↔ InP L x := by
  unfold prL prs hitL InP
  simp only [List.mem_flatMap, List.mem_map, List.mem_filter, decide_eq_true_eq]
  constructor
  · rintro ⟨e, he, j, ⟨⟨f, ⟨hf, ho⟩, rfl⟩, hj⟩, rfl⟩
    exact ⟨e, he, f, hf, hj, by rw [ovl_sym]; exact ho, rfl⟩
  · rintro ⟨e, he, f, hf, h, ho, rfl⟩
    exact ⟨e, he, f.1, ⟨⟨f, ⟨hf, by rw [ovl_sym]; exact ho⟩, rfl⟩, h⟩, rfl⟩
theorem prs_srt {L : Bxs} (h : Srt L) (e : Int × Bx) : SrtP (prs L e) := by
  unfold prs hitL SrtP
  rw [List.pairwise_map]
  refine List.Pairwise.filter _ ?_
  rw [List.pairwise_map]
  exact (List.Pairwise.filter _ h).imp fun {a b} h => .inr ⟨rfl, h⟩
theorem flat_srt {L : Bxs} (h : Srt L) : ∀ {M : Bxs}, Srt M → SrtP (M.flatMap (prs L))
  | [], _ => by simp
  | e :: M, hM => by
    have hc := List.pairwise_cons.1 hM
    rw [List.flatMap_cons]
    refine List.pairwise_append.2 ⟨prs_srt h e, flat_srt h hc.2, fun a ha b hb => ?_⟩
    obtain ⟨f, hf, hb⟩ := List.mem_flatMap.1 hb
    have h1 : a.1 = e.1 := by unfold prs at ha; obtain ⟨j, _, rfl⟩ := List.mem_map.1 ha; rfl
    have h2 : b.1 = f.1 := by unfold prs at hb; obtain ⟨j, _, rfl⟩ := List.mem_map.1 hb; rfl
    exact .inl (by rw [h1, h2]; exact hc.1 f hf)
theorem prL_srt {L : Bxs} (h : Srt L) : SrtP (prL L) := flat_srt h h
def byId (c : Bxs) : Bxs := c.foldl (fun L e => insL L e.1 e.2) []
theorem byId_both : ∀ (c o : Bxs), Srt o → Dst (o ++ c) → Srt (c.foldl (fun L e => insL L e.1 e.2) o) ∧ (c.foldl (fun L e => insL L e.1 e.2) o).Perm (o ++ c)
  | [], o, h, _ => ⟨h, by simp⟩
  | e :: c, o, h, hd => by
    have hp : (insL o e.1 e.2 ++ c).Perm (o ++ e :: c) := by
      refine ((insL_perm e.1 e.2 o).append_right c).trans ?_
      simp only [List.cons_append]
      exact List.perm_middle.symm
    have hd' := List.pairwise_append.1 hd
    obtain ⟨a, b⟩ := byId_both c (insL o e.1 e.2) (insL_srt e.2 h fun x hx => hd'.2.2 x hx e (by simp)) (hd.perm hp.symm)
    exact ⟨a, b.trans hp⟩
theorem byId_srt {c : Bxs} (h : Dst c) : Srt (byId c) := (byId_both c [] List.Pairwise.nil (by simpa using h)).1
theorem byId_perm {c : Bxs} (h : Dst c) : (byId c).Perm c := by simpa [byId] using (byId_both c [] List.Pairwise.nil (by simpa using h)).2
def prP (c : Bxs) : List (Int × Int) := prL (byId c)
theorem prP_srt {c : Bxs} (h : Dst c) : SrtP (prP c) := prL_srt (byId_srt h)
theorem prP_mem {c : Bxs} (h : Dst c) {x : Int × Int} : x ∈ prP c ↔ InP c x := mem_prL.trans (InP.congr (fun e => (byId_perm h).mem_iff) x)
theorem prP_eq {c : Bxs} (h : Dst c) {p : List (Int × Int)} (hs : SrtP p) (hm : ∀ x, x ∈ p ↔ InP c x) : p = prP c := srtP_ext hs (prP_srt h) fun x => (hm x).trans (prP_mem h).symm

def mm (e f : Int × Bx) : Int × Int := (min e.1 f.1, max e.1 f.1)
theorem mm_lt {e f : Int × Bx} (h : e.1 ≠ f.1) : (mm e f).1 < (mm e f).2 := by unfold mm; dsimp only; omega
def fl (e : Int × Bx) (r : Bxs) : List (Int × Int) := (r.filter fun f => Bx.ovl e.2 f.2).map (mm e)
theorem fl_snoc (e : Int × Bx) (r : Bxs) (f : Int × Bx) : fl e (r ++ [f]) = fl e r ++ if Bx.ovl e.2 f.2 then [mm e f] else [] := by
  unfold fl; rw [List.filter_append, List.map_append]
  congr 1
  by_cases h : Bx.ovl e.2 f.2 = true <;> simp [h]
theorem fl_mem {e : Int × Bx} {r : Bxs} {x : Int × Int} : x ∈ fl e r ↔ ∃ f ∈ r, Bx.ovl e.2 f.2 = true ∧ x = mm e f := by
  unfold fl
  simp only [List.mem_map, List.mem_filter]
  exact ⟨fun ⟨f, ⟨a, b⟩, c⟩ => ⟨f, a, b, c.symm⟩, fun ⟨f, a, b, c⟩ => ⟨f, ⟨a, b⟩, c.symm⟩⟩
theorem fl_len (e : Int × Bx) (r : Bxs) : (fl e r).length ≤ r.length := by unfold fl; rw [List.length_map]; exact List.length_filter_le _ _
def prA : Bxs → List (Int × Int)
  | [] => []
  | e :: r => fl e r ++ prA r
theorem InP_cons {e : Int × Bx} {r : Bxs} (h : Dst (e :: r)) {x : Int × Int} : InP (e :: r) x ↔ x ∈ fl e r ∨ InP r x := by
  have hc := List.pairwise_cons.1 h
  rw [fl_mem]
  constructor
  · rintro ⟨a, ha, b, hb, hlt, ho, rfl⟩
    rcases List.mem_cons.1 ha with h1 | h1 <;> rcases List.mem_cons.1 hb with h2 | h2
    · rw [h1, h2] at hlt; omega
    · rw [h1] at ho hlt ⊢; exact .inl ⟨b, h2, ho, by unfold mm; rw [Int.min_eq_left (by omega), Int.max_eq_right (by omega)]⟩
    · rw [h2] at ho hlt ⊢; exact .inl ⟨a, h1, by rw [ovl_sym]; exact ho, by unfold mm; rw [Int.min_eq_right (by omega), Int.max_eq_left (by omega)]⟩
    · exact .inr ⟨a, h1, b, h2, hlt, ho, rfl⟩
  · rintro (⟨f, hf, ho, rfl⟩ | ⟨a, ha, b, hb, r⟩)
    · have hne := hc.1 f hf
      rcases Int.lt_or_gt_of_ne hne with hlt | hlt
      · exact ⟨e, by simp, f, by simp [hf], hlt, ho, by unfold mm; rw [Int.min_eq_left (by omega), Int.max_eq_right (by omega)]⟩
      · exact ⟨f, by simp [hf], e, by simp, hlt, by rw [ovl_sym]; exact ho, by unfold mm; rw [Int.min_eq_right (by omega), Int.max_eq_left (by omega)]⟩
    · exact ⟨a, by simp [ha], b, by simp [hb], r⟩
theorem prA_mem : ∀ {c : Bxs}, Dst c → ∀ x, x ∈ prA c ↔ InP c x
  | [], _, x => by simp [prA, InP]
  | e :: r, h, x => by rw [prA, List.mem_append, InP_cons h, prA_mem (List.pairwise_cons.1 h).2]
theorem prA_nodup : ∀ {c : Bxs}, Dst c → (prA c).Nodup
  | [], _ => by simp [prA]
  | e :: r, h => by
    have hc := List.pairwise_cons.1 h
    rw [prA, List.nodup_append]
    refine ⟨?_, prA_nodup hc.2, fun a ha b hb hab => ?_⟩
    · unfold fl
      rw [List.nodup_iff_pairwise_ne, List.pairwise_map]
      have hall : ∀ f ∈ r.filter (fun f => Bx.ovl e.2 f.2), e.1 ≠ f.1 := fun f hf => hc.1 f ((List.mem_filter.1 hf).1)
      have hd : (r.filter fun f => Bx.ovl e.2 f.2).Pairwise fun a b => a.1 ≠ b.1 := List.Pairwise.filter _ hc.2
      refine List.Pairwise.imp_of_mem (fun {a b} ha hb hne => ?_) hd
      have h1 := hall a ha
      have h2 := hall b hb
      intro heq
      unfold mm at heq
      rw [Prod.mk.injEq] at heq
      omega
    · subst hab
      obtain ⟨f, hf, _, hx⟩ := fl_mem.1 ha
      obtain ⟨p, hp, q, hq, hlt, _, hx2⟩ := (prA_mem hc.2 a).1 hb
      have h1 := hc.1 p hp
      have h2 := hc.1 q hq
      rw [hx2] at hx
      unfold mm at hx
      rw [Prod.mk.injEq] at hx
      omega
theorem prA_perm {c : Bxs} (h : Dst c) : (prA c).Perm (prP c) :=
  (List.perm_ext_iff_of_nodup (prA_nodup h) (List.nodup_iff_pairwise_ne.2 ((prP_srt h).imp fun {a b} h (e : a = b) => ltP_irr a (by rw [← e] at h; exact h)))).2 fun x => (prA_mem h x).trans (prP_mem h).symm
def enu : Bxs → Nat → List (Int × Int)
  | [], _ => []
  | _ :: _, 0 => []
  | e :: r, k + 1 => fl e r ++ enu r k
theorem enu_zero (S : Bxs) : enu S 0 = [] := by cases S <;> rfl
theorem enu_succ : ∀ {S : Bxs} {k : Nat} (h : k < S.length), enu S (k + 1) = enu S k ++ fl S[k] (S.drop (k + 1))
  | [], k, h => by simp at h
  | e :: r, 0, h => by simp [enu, enu_zero]
  | e :: r, k + 1, h => by
    have := enu_succ (S := r) (k := k) (by simpa using h)
    simp only [enu, this, List.getElem_cons_succ, List.drop_succ_cons, List.append_assoc]
theorem enu_all : ∀ S : Bxs, enu S S.length = prA S
  | [] => rfl
  | e :: r => by simp [enu, prA, enu_all r]
theorem enu_len : ∀ (S : Bxs) (k : Nat), (enu S k).length ≤ k * S.length
  | [], _ => by simp [enu]
  | _ :: _, 0 => by simp [enu]
  | e :: r, k + 1 => by
    have := enu_len r k
    have := fl_len e r
    have h3 : k * r.length ≤ k * (e :: r).length := Nat.mul_le_mul_left _ (by simp)
    simp only [enu, List.length_append]
    rw [Nat.add_mul]
    simp only [List.length_cons] at *; omega
theorem nbr_fl {e : Int × Bx} : ∀ {r : Bxs}, r.Pairwise ltE → fl e (r.takeWhile fun f => decide (f.2.x0 ≤ e.2.x1)) = fl e r
  | [], _ => rfl
  | f :: r, h => by
    have hc := List.pairwise_cons.1 h
    by_cases hf : f.2.x0 ≤ e.2.x1
    · rw [List.takeWhile_cons_of_pos (by simpa using hf)]
      have ih := nbr_fl (e := e) hc.2
      unfold fl at ih ⊢
      rw [List.filter_cons, List.filter_cons]
      split
      · rw [List.map_cons, List.map_cons, ih]
      · exact ih
    · rw [List.takeWhile_cons_of_neg (by simpa using hf)]
      have hz : ∀ g ∈ f :: r, ¬ (Bx.ovl e.2 g.2 = true) := fun g hg ho => by
        have hg' : f.2.x0 ≤ g.2.x0 := by
          rcases List.mem_cons.1 hg with rfl | hg
          · omega
          · have := hc.1 g hg; unfold ltE at this; omega
        simp only [Bx.ovl, Bool.and_eq_true, decide_eq_true_eq] at ho
        omega
      unfold fl
      rw [List.filter_eq_nil_iff.2 hz]; rfl

/-! ### The sweep -/
def rmx (f : Nat → Nat) (x : Nat → Int) : Nat → Nat × Int
  | 0 => (0, 0)
  | n + 1 => if (rmx f x n).1 < f n then (f n, x n) else rmx f x n
theorem rmx_spec (f : Nat → Nat) (x : Nat → Int) : ∀ n, (∀ j, j < n → f j ≤ (rmx f x n).1) ∧ (((rmx f x n).1 = 0 ∧ (rmx f x n).2 = 0) ∨ ∃ j, j < n ∧ f j = (rmx f x n).1 ∧ (rmx f x n).2 = x j ∧ 0 < f j ∧ ∀ k, k < j → f k < f j)
  | 0 => ⟨fun j h => by omega, .inl ⟨rfl, rfl⟩⟩
  | n + 1 => by
    obtain ⟨h1, h2⟩ := rmx_spec f x n
    unfold rmx
    split
    · rename_i hlt
      refine ⟨fun j hj => ?_, .inr ⟨n, by omega, rfl, rfl, by omega, fun k hk => ?_⟩⟩
      · rcases Nat.lt_or_eq_of_le (Nat.le_of_lt_succ hj) with hj | rfl
        · have := h1 j hj; dsimp only; omega
        · exact Nat.le_refl _
      · have := h1 k hk; omega
    · rename_i hlt
      refine ⟨fun j hj => ?_, ?_⟩
      · rcases Nat.lt_or_eq_of_le (Nat.le_of_lt_succ hj) with hj | rfl
        · exact h1 j hj
        · omega
      · rcases h2 with h2 | ⟨j, a, b⟩
        · exact .inl h2
        · exact .inr ⟨j, by omega, b⟩
theorem rmx_eq {f g : Nat → Nat} {x : Nat → Int} {n : Nat} (hle : ∀ j, j < n → f j ≤ g j) (hx : ∀ i j, i ≤ j → j < n → x i ≤ x j) (hlast : ∀ j, j < n → ∃ k, j ≤ k ∧ k < n ∧ x k = x j ∧ f k = g j) : rmx f x n = rmx g x n := by
  obtain ⟨a1, a2⟩ := rmx_spec f x n
  obtain ⟨b1, b2⟩ := rmx_spec g x n
  have hfst : (rmx f x n).1 = (rmx g x n).1 := by
    refine Nat.le_antisymm ?_ ?_
    · rcases a2 with a2 | ⟨j, c1, c2, _⟩
      · omega
      · have := hle j c1; have := b1 j c1; omega
    · rcases b2 with b2 | ⟨j, c1, c2, _⟩
      · omega
      · obtain ⟨k, _, k2, _, k4⟩ := hlast j c1
        have := a1 k k2; omega
  refine Prod.ext hfst ?_
  rcases a2 with ⟨z1, z2⟩ | ⟨j, c1, c2, c3, c4, c5⟩ <;> rcases b2 with ⟨y1, y2⟩ | ⟨k, d1, d2, d3, d4, d5⟩
  · rw [z2, y2]
  · omega
  · omega
  · obtain ⟨k', e1, e2, e3, e4⟩ := hlast k d1
    have hjk : j ≤ k' := by
      rcases Nat.lt_or_ge k' j with h | h
      · have := c5 k' h; omega
      · exact h
    have hkj : k ≤ j := by
      rcases Nat.lt_or_ge j k with h | h
      · have := d5 j h; have := hle j c1; omega
      · exact h
    have q1 := hx j k' hjk e2
    have q2 := hx k j hkj c1
    rw [c3, d3]; omega
def xAt (S : Bxs) (j : Nat) : Int := (S.getD j default).2.x0
def gAt (S : Bxs) (j : Nat) : Nat := S.countP fun e => decide (e.2.x0 ≤ xAt S j) && decide (xAt S j ≤ e.2.x1)
def endd (S : Bxs) (x : Int) : Nat := S.countP fun e => decide (e.2.x1 < x)
def fAt (S : Bxs) (j : Nat) : Nat := j + 1 - endd S (xAt S j)
theorem xAt_eq {S : Bxs} {j : Nat} (h : j < S.length) : xAt S j = S[j].2.x0 := by unfold xAt; rw [List.getD_eq_getElem?_getD, List.getElem?_eq_getElem h]; rfl
theorem x_mono {S : Bxs} (hs : S.Pairwise ltE) {i j : Nat} (h : i ≤ j) (hj : j < S.length) : xAt S i ≤ xAt S j := by
  rcases Nat.lt_or_eq_of_le h with h | rfl
  · rw [xAt_eq (by omega), xAt_eq hj]
    have := List.pairwise_iff_getElem.1 hs i j (by omega) hj h
    unfold ltE at this; omega
  · omega
theorem beg_split {S : Bxs} (hv : ∀ e ∈ S, e.2.x0 ≤ e.2.x1) (x : Int) : S.countP (fun e => decide (e.2.x0 ≤ x)) = S.countP (fun e => decide (e.2.x0 ≤ x) && decide (x ≤ e.2.x1)) + endd S x := by
  unfold endd
  induction S with
  | nil => rfl
  | cons e S ih =>
    have := ih fun f hf => hv f (by simp [hf])
    have he := hv e (by simp)
    simp only [List.countP_cons, this, Bool.and_eq_true, decide_eq_true_eq]
    by_cases h1 : e.2.x0 ≤ x <;> by_cases h2 : x ≤ e.2.x1 <;> by_cases h3 : e.2.x1 < x <;> simp [h1, h2, h3] <;> omega
theorem pre_le {S : Bxs} (hs : S.Pairwise ltE) (x : Int) {i : Nat} (h : i < S.length) : i < S.countP (fun e => decide (e.2.x0 ≤ x)) ↔ S[i].2.x0 ≤ x := by
  rw [cnt_pre (p := fun e : Int × Bx => decide (e.2.x0 ≤ x)) (hs.imp fun {a b} h => by simp only [decide_eq_true_eq]; unfold ltE at h; omega) i h]
  simp
theorem endd_le {S : Bxs} (hs : S.Pairwise ltE) (hv : ∀ e ∈ S, e.2.x0 ≤ e.2.x1) {j : Nat} (hj : j < S.length) : endd S (xAt S j) ≤ j := by
  have h1 : endd S (xAt S j) ≤ S.countP fun e => decide (e.2.x0 < xAt S j) := List.countP_mono_left fun e he h => by
    have := hv e he
    simp only [decide_eq_true_eq] at h ⊢; omega
  have h2 := cnt_pre (p := fun e : Int × Bx => decide (e.2.x0 < xAt S j)) (hs.imp fun {a b} h => by simp only [decide_eq_true_eq]; unfold ltE at h; omega) j hj
  have h3 : ¬ j < S.countP fun e => decide (e.2.x0 < xAt S j) := fun h => by
    have := h2.1 h
    rw [xAt_eq hj] at this
    simp at this
  omega
theorem sweep_eq {S : Bxs} (hs : S.Pairwise ltE) (hv : ∀ e ∈ S, e.2.x0 ≤ e.2.x1) : rmx (fAt S) (xAt S) S.length = rmx (gAt S) (xAt S) S.length := by
  have hg : ∀ j, j < S.length → gAt S j + endd S (xAt S j) = S.countP fun e => decide (e.2.x0 ≤ xAt S j) := fun j _ => (beg_split hv _).symm
  have hbeg : ∀ j, j < S.length → j < S.countP fun e => decide (e.2.x0 ≤ xAt S j) := fun j hj => (pre_le hs _ hj).2 (by rw [xAt_eq hj]; omega)
  refine rmx_eq (fun j hj => ?_) (fun i j hij hj => x_mono hs hij hj) fun j hj => ?_
  · have := hg j hj; have := hbeg j hj; unfold fAt; omega
  · have h1 := hbeg j hj
    have h2 := List.countP_le_length (l := S) (p := fun e => decide (e.2.x0 ≤ xAt S j))
    obtain ⟨m, hm⟩ : ∃ m, S.countP (fun e => decide (e.2.x0 ≤ xAt S j)) = m + 1 := ⟨S.countP (fun e => decide (e.2.x0 ≤ xAt S j)) - 1, by omega⟩
    have hml : m < S.length := by omega
    have hx1 : S[m].2.x0 ≤ xAt S j := (pre_le hs _ hml).1 (by omega)
    have hx2 := x_mono hs (i := j) (j := m) (by omega) hml
    have hxe : xAt S m = xAt S j := by rw [xAt_eq hml] at hx2 ⊢; omega
    refine ⟨m, by omega, hml, hxe, ?_⟩
    have := hg j hj
    unfold fAt
    rw [hxe]; omega

end Go.Proofs.YtaahgblkmajceaaGreat

set_option linter.unusedVariables false
namespace Go.Proofs.YtaahgblkmajceaaGreat
open Go.RowKit Fx

def ec (e : Int × Bx) : List Value := [.int .i64 e.1, .int .i64 e.2.x0, .int .i64 e.2.y0, .int .i64 e.2.x1, .int .i64 e.2.y1]
def ev (l : Bxs) : List Value := l.flatMap ec
theorem ec_len (e : Int × Bx) : (ec e).length = 5 := rfl
theorem ev_len (l : Bxs) : (ev l).length = l.length * 5 := flat_len ec_len l
theorem ev_snoc (l : Bxs) (e : Int × Bx) : ev (l ++ [e]) = ev l ++ ec e := by simp [ev]
abbrev En := Int × Bx
abbrev Enrs (w : World) (A : Option Addr) (l : List En) : Prop := Els w 5 (fun cs f => cs = ec f ∧ i64k f.1) A l
abbrev Ents (w : World) (A : Option Addr) (l : List En) : Prop := Els w 5 (fun cs f => cs = ec f) A l
theorem Ents.to {w w' : World} {A : Option Addr} {l : List En} (h : Ents w A l) (hb : Below w.heap.size w w') : Ents w' A l := Els.to h (by decide) (fun _ _ h => h) hb
theorem Enrs.to {w w' : World} {A : Option Addr} {l : List En} (h : Enrs w A l) (hb : Below w.heap.size w w') : Enrs w' A l := Els.to h (by decide) (fun _ _ h => h) hb
theorem Enrs.ents {w : World} {A : Option Addr} {l : List En} (h : Enrs w A l) : Ents w A l := Els.to h (by decide) (fun _ _ h => h.1) (Below.refl _ _)
theorem Enrs.keys {w : World} {A : Option Addr} {l : List En} (h : Enrs w A l) : ∀ e ∈ l, i64k e.1 := fun e he => by
  rcases h with h | ⟨b, off, rfl, hc⟩
  · rw [h] at he; simp at he
  · obtain ⟨i, hi, rfl⟩ := List.getElem_of_mem he
    obtain ⟨cs, _, _, _, hk⟩ := hc i hi
    exact hk
theorem ents_open {w : World} {A : Option Addr} {l : List En} (h : Ents w A l) (h0 : 0 < l.length) : ∃ b off, A = some ⟨b, off, none⟩ ∧ b < w.heap.size ∧ ∀ i (h : i < l.length) w', Below w.heap.size w w' → older b w' = true ∧ w'.cell? ⟨b, off + i * 5, none⟩ = some (.int .i64 l[i].1) ∧ w'.cell? ⟨b, off + i * 5 + 1, none⟩ = some (.int .i64 l[i].2.x0) ∧ w'.cell? ⟨b, off + i * 5 + 2, none⟩ = some (.int .i64 l[i].2.y0) ∧ w'.cell? ⟨b, off + i * 5 + 3, none⟩ = some (.int .i64 l[i].2.x1) ∧ w'.cell? ⟨b, off + i * 5 + 4, none⟩ = some (.int .i64 l[i].2.y1) := by
  rcases h with h | ⟨b, off, rfl, hc⟩
  · rw [h] at h0; simp at h0
  · have hlt : b < w.heap.size := by
      obtain ⟨cs, _, k, rfl⟩ := hc 0 h0
      exact World.block_lt_of_cell? w ⟨b, off + 0 * 5 + 0, none⟩ (show _ = some (Value.int .i64 l[0].1) from k 0 (by decide))
    refine ⟨b, off, rfl, hlt, fun i hi w' hb => ?_⟩
    obtain ⟨cs, _, k, rfl⟩ := hc i hi
    exact ⟨(by have := hb.size; simp [older]; omega), (hb.cell (p := ⟨b, off + i * 5 + 0, none⟩) hlt).trans (k 0 (by decide)), (hb.cell (p := ⟨b, off + i * 5 + 1, none⟩) hlt).trans (k 1 (by decide)), (hb.cell (p := ⟨b, off + i * 5 + 2, none⟩) hlt).trans (k 2 (by decide)), (hb.cell (p := ⟨b, off + i * 5 + 3, none⟩) hlt).trans (k 3 (by decide)), (hb.cell (p := ⟨b, off + i * 5 + 4, none⟩) hlt).trans (k 4 (by decide))⟩
theorem owns_ents {w : World} {B : Nat} {e : TypeId} {v : Value} {n : Nat} {l : List En} (h : w.ownsRow B e 5 v n (ev l)) : ∃ A cap, v = .slice A l.length cap ∧ n = l.length ∧ l.length ≤ cap ∧ cap ≤ maxLen ∧ Ents w A l := by
  obtain ⟨A, cap, h1, h2, h3, h4, h5, _⟩ := owns_els (c := ec) ec_len (by decide) h
  exact ⟨A, cap, h1, h2, h3, h4, h5⟩

def prc (p : Int × Int) : List Value := [.int .i64 p.1, .int .i64 p.2]
abbrev Pr := Int × Int
abbrev Prrs (w : World) (A : Option Addr) (l : List Pr) : Prop := Els w 2 (fun cs f => cs = prc f ∧ i64k f.1 ∧ i64k f.2) A l
theorem Prrs.to {w w' : World} {A : Option Addr} {l : List Pr} (h : Prrs w A l) (hb : Below w.heap.size w w') : Prrs w' A l := Els.to h (by decide) (fun _ _ h => h) hb
theorem Prrs.keys {w : World} {A : Option Addr} {l : List Pr} (h : Prrs w A l) : ∀ e ∈ l, i64k e.1 ∧ i64k e.2 := fun e he => by
  rcases h with h | ⟨b, off, rfl, hc⟩
  · rw [h] at he; simp at he
  · obtain ⟨i, hi, rfl⟩ := List.getElem_of_mem he
    obtain ⟨cs, _, _, _, hk⟩ := hc i hi
    exact hk
theorem Prrs.pts {w : World} {A : Option Addr} {l : List Pr} (h : Prrs w A l) : Pts w A l := by
  rcases h with h | ⟨b, off, rfl, hc⟩
  · exact .inl h
  · refine .inr ⟨b, off, rfl, fun i hi => ?_⟩
    obtain ⟨cs, _, k, rfl, _⟩ := hc i hi
    exact ⟨k 0 (by decide), k 1 (by decide)⟩

structure TopD where
  k : Int
  i : Int
  x : Bx
  deriving DecidableEq, Inhabited
def toc (f : TopD) : List Value := [.int .u8 f.k, .int .i64 f.i, .int .i64 f.x.x0, .int .i64 f.x.y0, .int .i64 f.x.x1, .int .i64 f.x.y1]
abbrev Tops (w : World) (A : Option Addr) (l : List TopD) : Prop := Els w 6 (fun cs f => cs = toc f ∧ i64k f.i ∧ 0 ≤ f.k ∧ f.k < 256) A l
theorem Tops.to {w w' : World} {A : Option Addr} {l : List TopD} (h : Tops w A l) (hb : Below w.heap.size w w') : Tops w' A l := Els.to h (by decide) (fun _ _ h => h) hb
theorem tops_open {w : World} {A : Option Addr} {l : List TopD} (h : Tops w A l) (h0 : 0 < l.length) : ∃ b off, A = some ⟨b, off, none⟩ ∧ b < w.heap.size ∧ ∀ i (h : i < l.length), (i64k l[i].i ∧ 0 ≤ l[i].k ∧ l[i].k < 256) ∧ ∀ w', Below w.heap.size w w' → older b w' = true ∧ w'.cell? ⟨b, off + i * 6, none⟩ = some (.int .u8 l[i].k) ∧ w'.cell? ⟨b, off + i * 6 + 1, none⟩ = some (.int .i64 l[i].i) ∧ w'.cell? ⟨b, off + i * 6 + 2, none⟩ = some (.int .i64 l[i].x.x0) ∧ w'.cell? ⟨b, off + i * 6 + 3, none⟩ = some (.int .i64 l[i].x.y0) ∧ w'.cell? ⟨b, off + i * 6 + 4, none⟩ = some (.int .i64 l[i].x.x1) ∧ w'.cell? ⟨b, off + i * 6 + 5, none⟩ = some (.int .i64 l[i].x.y1) := by
  rcases h with h | ⟨b, off, rfl, hc⟩
  · rw [h] at h0; simp at h0
  · have hlt : b < w.heap.size := by
      obtain ⟨cs, _, k, rfl, -⟩ := hc 0 h0
      exact World.block_lt_of_cell? w ⟨b, off + 0 * 6 + 0, none⟩ (show _ = some (Value.int .u8 l[0].k) from k 0 (by decide))
    refine ⟨b, off, rfl, hlt, fun i hi => ?_⟩
    obtain ⟨cs, _, k, rfl, hw⟩ := hc i hi
    refine ⟨hw, fun w' hb => ?_⟩
    exact ⟨(by have := hb.size; simp [older]; omega), (hb.cell (p := ⟨b, off + i * 6 + 0, none⟩) hlt).trans (k 0 (by decide)), (hb.cell (p := ⟨b, off + i * 6 + 1, none⟩) hlt).trans (k 1 (by decide)), (hb.cell (p := ⟨b, off + i * 6 + 2, none⟩) hlt).trans (k 2 (by decide)), (hb.cell (p := ⟨b, off + i * 6 + 3, none⟩) hlt).trans (k 3 (by decide)), (hb.cell (p := ⟨b, off + i * 6 + 4, none⟩) hlt).trans (k 4 (by decide)), (hb.cell (p := ⟨b, off + i * 6 + 5, none⟩) hlt).trans (k 5 (by decide))⟩

section
open Go.ChangeShapes Go.WideShapes Go.Deep
variable {H : Type} {enc : TypeId × Value → H} {w : World} {base B : Nat} {spare : Nat → Bool} {held : Bool}
theorem u8_of_wf {n : Int} (h : (Lit.int .u8 n).wf = true) : 0 ≤ n ∧ n < 256 := by
  simp [Lit.wf, IntKind.min, IntKind.max, IntKind.signed, IntKind.bits] at h
  omega

theorem rd_Prr {fuel : Nat} {cs : List Value} {x : DataW H × List MemPlace} (h : DataW.trod enc Tryz.prog w base spare held fuel 49 cs = some x) : ∃ f : Int × Int, cs = prc f ∧ i64k f.1 ∧ i64k f.2 := by
  obtain ⟨xs, m, _, _, hl, hn, hf⟩ := DataW.trod_array Tryz.underlying49 h
  rw [show Tryz.prog.cellsOf 49 = 2 from by kernel_rfl] at hl
  obtain ⟨c0, r0, rfl, hl_0⟩ := cons_of hl
  obtain ⟨c1, r1, rfl, hl_1⟩ := cons_of hl_0
  obtain rfl := List.eq_nil_of_length_eq_zero hl_1
  have e0 : xs[0]? = some (xs[0]'(by omega)) := List.getElem?_eq_getElem _
  have e1 : xs[1]? = some (xs[1]'(by omega)) := List.getElem?_eq_getElem _
  have hc : Tryz.prog.cellsOf 3 = 1 := by kernel_rfl
  rw [hc] at hf
  have g0 := (hf 0 (by decide)).trans e0
  have g1 := (hf 1 (by decide)).trans e1
  generalize xs[0]'(by omega) = y0 at g0
  generalize xs[1]'(by omega) = y1 at g1
  simp only [Nat.zero_mul, Nat.one_mul, List.drop_zero, List.drop_succ_cons, List.take_succ_cons, List.take_zero, List.take_nil] at g0 g1
  obtain ⟨a, ea, wa⟩ := rd_intw20 Tryz.underlying3 g0
  obtain ⟨b, eb, wb⟩ := rd_intw20 Tryz.underlying3 g1
  simp at ea eb
  subst ea; subst eb
  exact ⟨(a, b), rfl, i64_of_wf wa, i64_of_wf wb⟩

theorem rd_Enr {fuel : Nat} {cs : List Value} {x : DataW H × List MemPlace} (h : DataW.trod enc Tryz.prog w base spare held fuel 46 cs = some x) : ∃ f : Int × Bx, cs = ec f ∧ i64k f.1 := by
  have hl := (rd_struct Tryz.underlying46 h).1
  rw [show Tryz.prog.cellsOf 46 = 5 from by kernel_rfl] at hl
  obtain ⟨c0, r0, rfl, hl_0⟩ := cons_of hl
  obtain ⟨c1, r1, rfl, hl_1⟩ := cons_of hl_0
  obtain ⟨c2, r2, rfl, hl_2⟩ := cons_of hl_1
  obtain ⟨c3, r3, rfl, hl_3⟩ := cons_of hl_2
  obtain ⟨c4, r4, rfl, hl_4⟩ := cons_of hl_3
  obtain rfl := List.eq_nil_of_length_eq_zero hl_4
  obtain ⟨-, fs1⟩ := rd_struct Tryz.underlying46 h
  obtain ⟨_, _, g2_⟩ := fs1 0 _ rfl
  have g2 : DataW.trod enc Tryz.prog w base spare held _ 3 (List.take (Tryz.prog.cellsOf 3) (List.drop 0 [c0, c1, c2, c3, c4])) = _ := g2_
  clear g2_
  rw [show Tryz.prog.cellsOf 3 = 1 from by kernel_rfl] at g2
  replace g2 := (show DataW.trod enc Tryz.prog w base spare held _ 3 [c0] = _ from g2)
  obtain ⟨a3, ea3, ew⟩ := rd_intw20 Tryz.underlying3 g2
  obtain rfl : c0 = _ := by simpa using ea3
  obtain ⟨_, _, g4_⟩ := fs1 1 _ rfl
  have g4 : DataW.trod enc Tryz.prog w base spare held _ 42 (List.take (Tryz.prog.cellsOf 42) (List.drop 1 [Value.int .i64 a3, c1, c2, c3, c4])) = _ := g4_
  clear g4_
  rw [show Tryz.prog.cellsOf 42 = 4 from by kernel_rfl] at g4
  replace g4 := (show DataW.trod enc Tryz.prog w base spare held _ 42 [c1, c2, c3, c4] = _ from g4)
  obtain ⟨-, fs5⟩ := rd_struct Tryz.underlying42 g4
  obtain ⟨_, _, g6_⟩ := fs5 0 _ rfl
  have g6 : DataW.trod enc Tryz.prog w base spare held _ 32 (List.take (Tryz.prog.cellsOf 32) (List.drop 0 [c1, c2, c3, c4])) = _ := g6_
  clear g6_
  rw [show Tryz.prog.cellsOf 32 = 2 from by kernel_rfl] at g6
  replace g6 := (show DataW.trod enc Tryz.prog w base spare held _ 32 [c1, c2] = _ from g6)
  obtain ⟨-, fs7⟩ := rd_struct Tryz.underlying32 g6
  obtain ⟨_, _, g8_⟩ := fs7 0 _ rfl
  have g8 : DataW.trod enc Tryz.prog w base spare held _ 3 (List.take (Tryz.prog.cellsOf 3) (List.drop 0 [c1, c2])) = _ := g8_
  clear g8_
  rw [show Tryz.prog.cellsOf 3 = 1 from by kernel_rfl] at g8
  replace g8 := (show DataW.trod enc Tryz.prog w base spare held _ 3 [c1] = _ from g8)
  obtain ⟨a9, ea9⟩ := rd_int Tryz.underlying3 g8
  obtain rfl : c1 = _ := by simpa using ea9
  obtain ⟨_, _, g10_⟩ := fs7 1 _ rfl
  have g10 : DataW.trod enc Tryz.prog w base spare held _ 3 (List.take (Tryz.prog.cellsOf 3) (List.drop 1 [Value.int .i64 a9, c2])) = _ := g10_
  clear g10_
  rw [show Tryz.prog.cellsOf 3 = 1 from by kernel_rfl] at g10
  replace g10 := (show DataW.trod enc Tryz.prog w base spare held _ 3 [c2] = _ from g10)
  obtain ⟨a11, ea11⟩ := rd_int Tryz.underlying3 g10
  obtain rfl : c2 = _ := by simpa using ea11
  obtain ⟨_, _, g12_⟩ := fs5 1 _ rfl
  have g12 : DataW.trod enc Tryz.prog w base spare held _ 32 (List.take (Tryz.prog.cellsOf 32) (List.drop 2 [Value.int .i64 a9, Value.int .i64 a11, c3, c4])) = _ := g12_
  clear g12_
  rw [show Tryz.prog.cellsOf 32 = 2 from by kernel_rfl] at g12
  replace g12 := (show DataW.trod enc Tryz.prog w base spare held _ 32 [c3, c4] = _ from g12)
  obtain ⟨-, fs13⟩ := rd_struct Tryz.underlying32 g12
  obtain ⟨_, _, g14_⟩ := fs13 0 _ rfl
  have g14 : DataW.trod enc Tryz.prog w base spare held _ 3 (List.take (Tryz.prog.cellsOf 3) (List.drop 0 [c3, c4])) = _ := g14_
  clear g14_
  rw [show Tryz.prog.cellsOf 3 = 1 from by kernel_rfl] at g14
  replace g14 := (show DataW.trod enc Tryz.prog w base spare held _ 3 [c3] = _ from g14)
  obtain ⟨a15, ea15⟩ := rd_int Tryz.underlying3 g14
  obtain rfl : c3 = _ := by simpa using ea15
  obtain ⟨_, _, g16_⟩ := fs13 1 _ rfl
  have g16 : DataW.trod enc Tryz.prog w base spare held _ 3 (List.take (Tryz.prog.cellsOf 3) (List.drop 1 [Value.int .i64 a15, c4])) = _ := g16_
  clear g16_
  rw [show Tryz.prog.cellsOf 3 = 1 from by kernel_rfl] at g16
  replace g16 := (show DataW.trod enc Tryz.prog w base spare held _ 3 [c4] = _ from g16)
  obtain ⟨a17, ea17⟩ := rd_int Tryz.underlying3 g16
  obtain rfl : c4 = _ := by simpa using ea17
  exact ⟨⟨a3, ⟨a9, a11, a15, a17⟩⟩, rfl, i64_of_wf ew⟩

end

end Go.Proofs.YtaahgblkmajceaaGreat
