/- Chapter 22, mathematics: sorted keys, the pairs that the search finds. -/
import Derived.Test.YtaahgblkmajceaaGreatBpC
import Derived.Test.YtaahgblkmajceaaGreatBpE
set_option linter.unusedVariables false
set_option linter.unusedSimpArgs false
namespace Go.Proofs.YtaahgblkmajceaaGreat
open Go.RowKit Fx

/-! ### Sorted lists of keys -/
def ltK (x y : Ky) : Prop := x.a < y.a ∨ x.a = y.a ∧ (x.p < y.p ∨ x.p = y.p ∧ (x.b < y.b ∨ x.b = y.b ∧ x.q < y.q))
instance (x y : Ky) : Decidable (ltK x y) := by unfold ltK; infer_instance
theorem lesK_iff {x y : Ky} : lesK x y = true ↔ ltK x y := by unfold lesK les8 ltK; exact decide_eq_true_iff
theorem ltK_irr (x : Ky) : ¬ ltK x x := by unfold ltK; omega
theorem ltK_trans (x y z : Ky) (h : ltK x y) (k : ltK y z) : ltK x z := by unfold ltK at *; omega
theorem ltK_or (x y : Ky) : ltK x y ∨ x = y ∨ ltK y x := by
  obtain ⟨a, p, b, q⟩ := x
  obtain ⟨a2, p2, b2, q2⟩ := y
  simp only [ltK, Ky.mk.injEq]; omega
abbrev SrtK (l : List Ky) : Prop := l.Pairwise ltK
theorem srtK_ext {l l' : List Ky} (h : SrtK l) (h' : SrtK l') (hm : ∀ x, x ∈ l ↔ x ∈ l') : l = l' := by
  have n1 : l.Nodup := List.nodup_iff_pairwise_ne.2 (h.imp fun {a b} h (e : a = b) => ltK_irr a (by rw [← e] at h; exact h))
  have n2 : l'.Nodup := List.nodup_iff_pairwise_ne.2 (h'.imp fun {a b} h (e : a = b) => ltK_irr a (by rw [← e] at h; exact h))
  exact List.Perm.eq_of_pairwise (le := ltK) (fun a b _ _ h1 h2 => (ltK_irr a (ltK_trans a b a h1 h2)).elim) h h' ((List.perm_ext_iff_of_nodup n1 n2).2 hm)
/-- A key put into a sorted list, ahead of the first that it does not follow. -/
def insK : List Ky → Ky → List Ky
  | [], k => [k]
  | x :: r, k => if ltK x k then x :: insK r k else k :: x :: r
theorem insK_perm (k : Ky) : ∀ L : List Ky, (insK L k).Perm (k :: L)
  | [] => List.Perm.refl _
  | x :: L => by
    unfold insK; split
    · exact ((insK_perm k L).cons x).trans (List.Perm.swap _ _ _)
    · exact List.Perm.refl _
theorem insK_srt {k : Ky} : ∀ {L : List Ky}, SrtK L → k ∉ L → SrtK (insK L k)
  | [], _, _ => by simp [insK]
  | x :: L, h, hn => by
    have h' := List.pairwise_cons.1 h
    unfold insK; split
    · rename_i hlt
      refine List.pairwise_cons.2 ⟨fun y hy => ?_, insK_srt h'.2 fun hk => hn (by simp [hk])⟩
      rcases List.mem_cons.1 ((insK_perm k L).mem_iff.1 hy) with rfl | hy
      · exact hlt
      · exact h'.1 y hy
    · rename_i hlt
      have hkx : ltK k x := by
        rcases ltK_or x k with h | h | h
        · exact (hlt h).elim
        · exact (hn (by simp [h])).elim
        · exact h
      refine List.pairwise_cons.2 ⟨fun y hy => ?_, h⟩
      rcases List.mem_cons.1 hy with rfl | hy
      · exact hkx
      · exact ltK_trans _ _ _ hkx (h'.1 y hy)
theorem insK_at {e : Ky} : ∀ {L : List Ky} {k : Nat}, k ≤ L.length → (∀ i (h : i < L.length), i < k → ltK L[i] e) → (∀ h : k < L.length, ¬ ltK L[k] e) → insK L e = L.take k ++ e :: L.drop k
  | [], k, _, _, _ => by simp [insK]
  | x :: L, 0, _, _, h => by
    have := h (by simp)
    simp only [List.getElem_cons_zero] at this
    simp [insK, this]
  | x :: L, k + 1, hk, hl, hr => by
    have h0 := hl 0 (by simp) (by omega)
    simp only [List.getElem_cons_zero] at h0
    simp only [List.length_cons] at hk
    have := insK_at (L := L) (k := k) (e := e) (by omega) (fun i h hi => by have := hl (i + 1) (by simp; omega) (by omega); simpa using this) (fun h => by have := hr (by simp; omega); simpa using this)
    simp [insK, h0, this]
def srK (l : List Ky) : List Ky := l.foldl insK []
theorem srK_snoc (l : List Ky) (k : Ky) : srK (l ++ [k]) = insK (srK l) k := by simp [srK]
theorem srK_both : ∀ (l o : List Ky), SrtK o → (o ++ l).Nodup → SrtK (l.foldl insK o) ∧ (l.foldl insK o).Perm (o ++ l)
  | [], o, h, _ => ⟨h, by simp⟩
  | k :: l, o, h, hd => by
    have hp : (insK o k ++ l).Perm (o ++ k :: l) := by
      refine ((insK_perm k o).append_right l).trans ?_
      simp only [List.cons_append]
      exact List.perm_middle.symm
    have hk : k ∉ o := fun hk => (List.nodup_append.1 hd).2.2 k hk k (by simp) rfl
    obtain ⟨a, b⟩ := srK_both l (insK o k) (insK_srt h hk) (hp.nodup_iff.2 hd)
    exact ⟨a, b.trans hp⟩
theorem srK_srt {l : List Ky} (h : l.Nodup) : SrtK (srK l) := (srK_both l [] List.Pairwise.nil (by simpa using h)).1
theorem srK_perm {l : List Ky} (h : l.Nodup) : (srK l).Perm l := by simpa [srK] using (srK_both l [] List.Pairwise.nil (by simpa using h)).2
theorem srK_mem {l : List Ky} (h : l.Nodup) {x : Ky} : x ∈ srK l ↔ x ∈ l := (srK_perm h).mem_iff

/-! ### The pairs of fixtures -/
def hitF (a b : Bdy) (p q : Nat) : Bool := match a.fs[p]?, b.fs[q]? with
  | some f, some g => shc f.grp f.cat f.msk g.grp g.cat g.msk && Bx.ovl (fbx a f) (fbx b g)
  | _, _ => false
theorem hitF_at {a b : Bdy} {p q : Nat} (hp : p < a.fs.length) (hq : q < b.fs.length) : hitF a b p q = (shc a.fs[p].grp a.fs[p].cat a.fs[p].msk b.fs[q].grp b.fs[q].cat b.fs[q].msk && Bx.ovl (fbx a a.fs[p]) (fbx b b.fs[q])) := by
  unfold hitF; rw [List.getElem?_eq_getElem hp, List.getElem?_eq_getElem hq]
def kyOf (a b : Bdy) (p q : Nat) : Ky := ⟨a.i, p, b.i, q⟩
/-- Of fixture p of a: its pairs with the first n fixtures of b. -/
def kq (a b : Bdy) (p n : Nat) : List Ky := (List.range n).flatMap fun q => if hitF a b p q then [kyOf a b p q] else []
theorem kq_succ (a b : Bdy) (p n : Nat) : kq a b p (n + 1) = kq a b p n ++ if hitF a b p n then [kyOf a b p n] else [] := by simp [kq, List.range_succ]
/-- Of the first n fixtures of a: their pairs with those of b. -/
def kp (a b : Bdy) (n : Nat) : List Ky := (List.range n).flatMap fun p => kq a b p b.fs.length
theorem kp_succ (a b : Bdy) (n : Nat) : kp a b (n + 1) = kp a b n ++ kq a b n b.fs.length := by simp [kp, List.range_succ]
/-- No body ahead has this ID. -/
def fstB (l : List Bdy) (i : Nat) : Bool := match l[i]? with
  | some b => (l.take i).all fun x => !(x.i == b.i)
  | none => false
def okAB (l : List Bdy) (js : List Jnt) (i k : Nat) : Bool := match l[i]?, l[k]? with
  | some a, some b => decide (a.i < b.i) && fstB l i && fstB l k && (a.k == 3 || b.k == 3) && !cnj js a.i b.i
  | _, _ => false
def kab (l : List Bdy) (js : List Jnt) (i k : Nat) : List Ky := match l[i]?, l[k]? with
  | some a, some b => if okAB l js i k then kp a b a.fs.length else []
  | _, _ => []
/-- Of body i: its pairs with the first n bodies. -/
def kk (l : List Bdy) (js : List Jnt) (i n : Nat) : List Ky := (List.range n).flatMap fun k => kab l js i k
theorem kk_succ (l : List Bdy) (js : List Jnt) (i n : Nat) : kk l js i (n + 1) = kk l js i n ++ kab l js i n := by simp [kk, List.range_succ]
/-- Of the first n bodies: their pairs with all bodies. -/
def ki (l : List Bdy) (js : List Jnt) (n : Nat) : List Ky := (List.range n).flatMap fun i => kk l js i l.length
theorem ki_succ (l : List Bdy) (js : List Jnt) (n : Nat) : ki l js (n + 1) = ki l js n ++ kk l js n l.length := by simp [ki, List.range_succ]
/-- The keys of FindPairs. -/
def fpL (l : List Bdy) (js : List Jnt) : List Ky := srK (ki l js l.length)

theorem kq_mem {a b : Bdy} {p n : Nat} {x : Ky} : x ∈ kq a b p n ↔ ∃ q, q < n ∧ hitF a b p q = true ∧ x = kyOf a b p q := by
  unfold kq
  simp only [List.mem_flatMap, List.mem_range]
  constructor
  · rintro ⟨q, hq, h⟩
    split at h
    · rename_i hh; simp at h; exact ⟨q, hq, hh, h⟩
    · simp at h
  · rintro ⟨q, hq, h, rfl⟩; exact ⟨q, hq, by rw [if_pos h]; simp⟩
theorem kp_mem {a b : Bdy} {n : Nat} {x : Ky} : x ∈ kp a b n ↔ ∃ p q, p < n ∧ q < b.fs.length ∧ hitF a b p q = true ∧ x = kyOf a b p q := by
  unfold kp
  simp only [List.mem_flatMap, List.mem_range, kq_mem]
  constructor
  · rintro ⟨p, hp, q, hq, h⟩; exact ⟨p, q, hp, hq, h⟩
  · rintro ⟨p, q, hp, hq, h⟩; exact ⟨p, hp, q, hq, h⟩
/-- What the search finds. -/
def InK (l : List Bdy) (js : List Jnt) (x : Ky) : Prop := ∃ i k a b p q, l[i]? = some a ∧ l[k]? = some b ∧ okAB l js i k = true ∧ p < a.fs.length ∧ q < b.fs.length ∧ hitF a b p q = true ∧ x = kyOf a b p q
theorem kab_mem {l : List Bdy} {js : List Jnt} {i k : Nat} {x : Ky} : x ∈ kab l js i k ↔ ∃ a b p q, l[i]? = some a ∧ l[k]? = some b ∧ okAB l js i k = true ∧ p < a.fs.length ∧ q < b.fs.length ∧ hitF a b p q = true ∧ x = kyOf a b p q := by
  unfold kab
  rcases ha : l[i]? with _ | a
  · simp
  · rcases hb : l[k]? with _ | b
    · simp
    · simp only
      split
      · rename_i h
        rw [kp_mem]
        constructor
        · rintro ⟨p, q, h1, h2, h3, h4⟩; exact ⟨a, b, p, q, rfl, rfl, h, h1, h2, h3, h4⟩
        · rintro ⟨a', b', p, q, e1, e2, _, h1, h2, h3, h4⟩; cases e1; cases e2; exact ⟨p, q, h1, h2, h3, h4⟩
      · rename_i h
        constructor
        · intro h2; simp at h2
        · rintro ⟨_, _, _, _, _, _, h2, _⟩; exact (h h2).elim
theorem ki_mem {l : List Bdy} {js : List Jnt} {x : Ky} : x ∈ ki l js l.length ↔ InK l js x := by
  unfold ki kk InK
  simp only [List.mem_flatMap, List.mem_range, kab_mem]
  constructor
  · rintro ⟨i, _, k, _, a, b, p, q, r⟩; exact ⟨i, k, a, b, p, q, r⟩
  · rintro ⟨i, k, a, b, p, q, e1, e2, r⟩
    exact ⟨i, (List.getElem?_eq_some_iff.1 e1).1, k, (List.getElem?_eq_some_iff.1 e2).1, a, b, p, q, e1, e2, r⟩
/-- First bodies with one ID are one. -/
theorem fstB_inj {l : List Bdy} {i k : Nat} {a b : Bdy} (h1 : l[i]? = some a) (h2 : l[k]? = some b) (f1 : fstB l i = true) (f2 : fstB l k = true) (e : a.i = b.i) : i = k := by
  have key : ∀ {i k : Nat} {a b : Bdy}, l[i]? = some a → l[k]? = some b → fstB l k = true → a.i = b.i → ¬ i < k := by
    intro i k a b h1 h2 f2 e hlt
    unfold fstB at f2
    rw [h2] at f2
    have := List.all_eq_true.1 f2 a (List.mem_take_iff_getElem.2 ⟨i, by have := (List.getElem?_eq_some_iff.1 h1).1; omega, (List.getElem?_eq_some_iff.1 h1).2⟩)
    simp [e] at this
  have := key h1 h2 f2 e
  have := key h2 h1 f1 e.symm
  omega
theorem okAB_at {l : List Bdy} {js : List Jnt} {i k : Nat} {a b : Bdy} (h1 : l[i]? = some a) (h2 : l[k]? = some b) : okAB l js i k = (decide (a.i < b.i) && fstB l i && fstB l k && (a.k == 3 || b.k == 3) && !cnj js a.i b.i) := by
  unfold okAB; rw [h1, h2]
theorem kyOf_inj {a b : Bdy} {p q : Nat} {a' b' : Bdy} {p' q' : Nat} (h : kyOf a b p q = kyOf a' b' p' q') : a.i = a'.i ∧ p = p' ∧ b.i = b'.i ∧ q = q' := by
  unfold kyOf at h
  rw [Ky.mk.injEq] at h
  omega
theorem kq_nodup (a b : Bdy) (p n : Nat) : (kq a b p n).Nodup := by
  unfold kq
  rw [List.nodup_iff_pairwise_ne, List.pairwise_flatMap]
  refine ⟨fun q _ => by split <;> simp, List.pairwise_lt_range.imp fun {q q'} hlt x hx y hy e => ?_⟩
  split at hx <;> simp at hx
  split at hy <;> simp at hy
  have := kyOf_inj (hx.symm.trans (e.trans hy))
  omega
theorem kp_nodup (a b : Bdy) (n : Nat) : (kp a b n).Nodup := by
  unfold kp
  rw [List.nodup_iff_pairwise_ne, List.pairwise_flatMap]
  refine ⟨fun p _ => List.nodup_iff_pairwise_ne.1 (kq_nodup a b p _), List.pairwise_lt_range.imp fun {p p'} hlt x hx y hy e => ?_⟩
  obtain ⟨q, _, _, rfl⟩ := kq_mem.1 hx
  obtain ⟨q', _, _, rfl⟩ := kq_mem.1 hy
  have := kyOf_inj e
  omega
theorem ki_nodup (l : List Bdy) (js : List Jnt) : (ki l js l.length).Nodup := by
  have key : ∀ {i k i' k' : Nat} {x : Ky}, x ∈ kab l js i k → x ∈ kab l js i' k' → i = i' ∧ k = k' := by
    intro i k i' k' x hx hy
    obtain ⟨a, b, p, q, e1, e2, o1, _, _, _, rfl⟩ := kab_mem.1 hx
    obtain ⟨a', b', p', q', e3, e4, o2, _, _, _, e⟩ := kab_mem.1 hy
    rw [okAB_at e1 e2] at o1
    rw [okAB_at e3 e4] at o2
    simp only [Bool.and_eq_true] at o1 o2
    have hh := kyOf_inj e
    exact ⟨fstB_inj e1 e3 o1.1.1.1.2 o2.1.1.1.2 hh.1, fstB_inj e2 e4 o1.1.1.2 o2.1.1.2 hh.2.2.1⟩
  unfold ki
  rw [List.nodup_iff_pairwise_ne, List.pairwise_flatMap]
  refine ⟨fun i _ => ?_, List.pairwise_lt_range.imp fun {i i'} hlt x hx y hy e => ?_⟩
  · unfold kk
    rw [List.pairwise_flatMap]
    refine ⟨fun k _ => ?_, List.pairwise_lt_range.imp fun {k k'} hlt x hx y hy e => ?_⟩
    · unfold kab
      split
      · split
        · exact List.nodup_iff_pairwise_ne.1 (kp_nodup _ _ _)
        · exact List.Pairwise.nil
      · exact List.Pairwise.nil
    · subst e; have := key hx hy; omega
  · subst e
    unfold kk at hx hy
    obtain ⟨k, _, hx⟩ := List.mem_flatMap.1 hx
    obtain ⟨k', _, hy⟩ := List.mem_flatMap.1 hy
    have := key hx hy; omega
theorem fpL_srt (l : List Bdy) (js : List Jnt) : SrtK (fpL l js) := srK_srt (ki_nodup l js)
theorem fpL_mem {l : List Bdy} {js : List Jnt} {x : Ky} : x ∈ fpL l js ↔ InK l js x := (srK_mem (ki_nodup l js)).trans ki_mem
/-- What a sorted list of the pairs is. -/
theorem fpL_eq {l : List Bdy} {js : List Jnt} {r : List Ky} (hs : SrtK r) (hm : ∀ x, x ∈ r ↔ InK l js x) : r = fpL l js := srtK_ext hs (fpL_srt l js) fun x => (hm x).trans fpL_mem.symm

end Go.Proofs.YtaahgblkmajceaaGreat
