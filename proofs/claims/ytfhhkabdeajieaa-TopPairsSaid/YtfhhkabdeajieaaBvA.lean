/- Plain mathematics of chapter 20: binary trees of boxes, memory that holds them, the path from a node to the root, a node's adoption of two children, one node in the place of another. No program is imported. -/
import Derived.Test.YtfhhkabdeajieaaMa2
set_option linter.unusedVariables false
set_option linter.unusedSimpArgs false
namespace Go.Proofs.Ytfhhkabdeajieaa
open Fx

/-- A tree: each node with its block. -/
inductive Tr where
  | leaf (b : Nat) (id : Int) (x : Bx)
  | node (b : Nat) (l r : Tr)
  deriving Inhabited

def Tr.b : Tr → Nat
  | .leaf b _ _ => b
  | .node b _ _ => b
def Tr.ht : Tr → Nat
  | .leaf _ _ _ => 1
  | .node _ l r => 1 + max l.ht r.ht
def Tr.box : Tr → Bx
  | .leaf _ _ x => x
  | .node _ l r => Bx.uni l.box r.box
def Tr.bs : Tr → List Nat
  | .leaf b _ _ => [b]
  | .node b l r => b :: (l.bs ++ r.bs)
/-- The leaves: block, ID, box. -/
def Tr.lv : Tr → List (Nat × Int × Bx)
  | .leaf b i x => [(b, i, x)]
  | .node _ l r => l.lv ++ r.lv
def Tr.bal : Tr → Prop
  | .leaf _ _ _ => True
  | .node _ l r => l.bal ∧ r.bal ∧ l.ht ≤ r.ht + 1 ∧ r.ht ≤ l.ht + 1
/-- The IDs of the leaves that a search meets. -/
def Tr.hits (m : Bx → Bool) : Tr → List Int
  | .leaf _ i x => if m x then [i] else []
  | .node _ l r => if m (Bx.uni l.box r.box) then l.hits m ++ r.hits m else []

theorem Tr.b_mem : ∀ t : Tr, t.b ∈ t.bs
  | .leaf _ _ _ => by simp [Tr.b, Tr.bs]
  | .node _ _ _ => by simp [Tr.b, Tr.bs]
theorem Tr.ht_pos : ∀ t : Tr, 1 ≤ t.ht
  | .leaf _ _ _ => Nat.le_refl _
  | .node _ l r => by simp only [Tr.ht]; omega
theorem Tr.lv_bs : ∀ t : Tr, ∀ e ∈ t.lv, e.1 ∈ t.bs
  | .leaf _ _ _, e, h => by simp only [Tr.lv, List.mem_singleton] at h; subst h; simp [Tr.bs]
  | .node _ l r, e, h => by
    simp only [Tr.lv, List.mem_append] at h
    simp only [Tr.bs, List.mem_cons, List.mem_append]
    rcases h with h | h
    · exact .inr (.inl (l.lv_bs e h))
    · exact .inr (.inr (r.lv_bs e h))
theorem Tr.lv_pos : ∀ t : Tr, 1 ≤ t.lv.length
  | .leaf _ _ _ => Nat.le_refl _
  | .node _ l r => by have := l.lv_pos; simp only [Tr.lv, List.length_append]; omega
theorem Tr.ht_lv : ∀ t : Tr, t.ht ≤ t.lv.length
  | .leaf _ _ _ => Nat.le_refl _
  | .node _ l r => by
    have := l.ht_lv; have := r.ht_lv; have := l.lv_pos; have := r.lv_pos
    simp only [Tr.lv, Tr.ht, List.length_append]; omega
theorem Tr.lv_nodup : ∀ t : Tr, t.bs.Nodup → (t.lv.map (·.1)).Nodup
  | .leaf _ _ _, _ => by simp [Tr.lv]
  | .node _ l r, h => by
    simp only [Tr.bs, List.nodup_cons, List.nodup_append] at h
    simp only [Tr.lv, List.map_append, List.nodup_append, List.mem_map]
    refine ⟨l.lv_nodup h.2.1, r.lv_nodup h.2.2.1, ?_⟩
    rintro a ⟨e, he, rfl⟩ b ⟨f, hf, rfl⟩ hab
    exact h.2.2.2 _ (l.lv_bs e he) _ (r.lv_bs f hf) hab
/-- At least so many leaves as the bound on the height asks; no more than a binary tree of this height has. -/
theorem Tr.lv_le : ∀ t : Tr, t.lv.length ≤ 2 ^ (t.ht - 1)
  | .leaf _ _ _ => by simp [Tr.lv, Tr.ht]
  | .node _ l r => by
    have h1 := l.lv_le; have h2 := r.lv_le; have := l.ht_pos; have := r.ht_pos
    have e1 : 2 ^ (l.ht - 1) ≤ 2 ^ (max l.ht r.ht - 1) := Nat.pow_le_pow_right (by decide) (by omega)
    have e2 : 2 ^ (r.ht - 1) ≤ 2 ^ (max l.ht r.ht - 1) := Nat.pow_le_pow_right (by decide) (by omega)
    simp only [Tr.lv, Tr.ht, List.length_append, Nat.add_sub_cancel_left]
    have e3 : 2 ^ max l.ht r.ht = 2 * 2 ^ (max l.ht r.ht - 1) := by
      conv => lhs; rw [show max l.ht r.ht = (max l.ht r.ht - 1) + 1 by omega]
      rw [Nat.pow_succ]; omega
    omega
theorem Tr.lv_ge : ∀ (k : Nat) (t : Tr), t.bal → 2 * k + 1 ≤ t.ht → 2 ^ k ≤ t.lv.length
  | 0, t, _, _ => t.lv_pos
  | k + 1, .leaf _ _ _, _, h => by simp [Tr.ht] at h
  | k + 1, .node _ l r, ⟨hl, hr, h1, h2⟩, h => by
    simp only [Tr.ht] at h
    have a := fun h => Tr.lv_ge k l hl h
    have b := fun h => Tr.lv_ge k r hr h
    simp only [Tr.lv, List.length_append, Nat.pow_succ]
    have := a (by omega); have := b (by omega)
    omega

/-- A node in memory. -/
structure Nd where
  id : Int
  x : Bx
  h : Int
  p : Option Nat
  l : Option Nat
  r : Option Nat
  deriving Inhabited

/-- The memory M holds the tree: all of it but for what its root has as parent. -/
def Lay (M : Nat → Nd) : Tr → Prop
  | .leaf b i x => (M b).id = i ∧ (M b).x = x ∧ (M b).h = 1
  | .node b l r => (M b).x = Bx.uni l.box r.box ∧ (M b).h = ((1 + max l.ht r.ht : Nat) : Int) ∧ (M b).l = some l.b ∧ (M b).r = some r.b ∧ (M l.b).p = some b ∧ (M r.b).p = some b ∧ Lay M l ∧ Lay M r

theorem Lay.box {M : Nat → Nd} : ∀ {t : Tr}, Lay M t → (M t.b).x = t.box
  | .leaf _ _ _, h => h.2.1
  | .node _ _ _, h => h.1
theorem Lay.ht {M : Nat → Nd} : ∀ {t : Tr}, Lay M t → (M t.b).h = (t.ht : Int)
  | .leaf _ _ _, h => h.2.2
  | .node _ _ _, h => h.2.1

/-- The tree stays where only its root's parent has turned. -/
theorem Lay.cong {M M' : Nat → Nd} : ∀ {t : Tr}, Lay M t → t.bs.Nodup → (∀ c ∈ t.bs, M' c = M c ∨ (c = t.b ∧ ∃ q, M' c = { M c with p := q })) → Lay M' t
  | .leaf b i x, h, _, hs => by
    rcases hs b (by simp [Tr.bs]) with e | ⟨_, q, e⟩ <;> simp only [Lay, e] <;> exact h
  | .node b l r, h, hn, hs => by
    obtain ⟨h1, h2, h3, h4, h5, h6, h7, h8⟩ := h
    simp only [Tr.bs, List.nodup_cons, List.mem_append, not_or, List.nodup_append] at hn
    obtain ⟨⟨n1, n2⟩, n3, n4, n5⟩ := hn
    have hl : ∀ c ∈ l.bs, M' c = M c := fun c hc => by
      rcases hs c (by simp [Tr.bs, hc]) with e | ⟨rfl, _⟩
      · exact e
      · exact absurd hc n1
    have hr : ∀ c ∈ r.bs, M' c = M c := fun c hc => by
      rcases hs c (by simp [Tr.bs, hc]) with e | ⟨rfl, _⟩
      · exact e
      · exact absurd hc n2
    have a := Lay.cong h7 n3 (fun c hc => .inl (hl c hc))
    have b' := Lay.cong h8 n4 (fun c hc => .inl (hr c hc))
    rcases hs b (by simp [Tr.bs]) with e | ⟨_, q, e⟩ <;> simp only [Lay, e, hl _ l.b_mem, hr _ r.b_mem] <;> exact ⟨h1, h2, h3, h4, h5, h6, a, b'⟩
theorem Lay.same {M M' : Nat → Nd} {t : Tr} (h : Lay M t) (hn : t.bs.Nodup) (hs : ∀ c ∈ t.bs, M' c = M c) : Lay M' t := h.cong hn fun c hc => .inl (hs c hc)

/-- One step of the way from a node to the root: the parent, whether the node is its second child, the other child. -/
structure Frm where
  b : Nat
  sd : Bool
  s : Tr
def Frm.fill (f : Frm) (t : Tr) : Tr := if f.sd then .node f.b f.s t else .node f.b t f.s
def plug : List Frm → Tr → Tr
  | [], t => t
  | f :: C, t => plug C (f.fill t)
def cbs : List Frm → List Nat
  | [] => []
  | f :: C => f.b :: (f.s.bs ++ cbs C)
def clv : List Frm → List (Nat × Int × Bx)
  | [] => []
  | f :: C => f.s.lv ++ clv C
def ctop : List Frm → Nat → Nat
  | [], b => b
  | f :: C, _ => ctop C f.b
def cbal : List Frm → Nat → Prop
  | [], _ => True
  | f :: C, H => f.s.bal ∧ f.s.ht ≤ H + 1 ∧ H ≤ f.s.ht + 1 ∧ cbal C (1 + max H f.s.ht)
/-- The memory holds the way from the node c to the root, and what hangs on it. -/
def LayC (M : Nat → Nd) : List Frm → Nat → Prop
  | [], c => (M c).p = none
  | f :: C, c => (M c).p = some f.b ∧ (M f.s.b).p = some f.b ∧ (M f.b).l = some (if f.sd then f.s.b else c) ∧ (M f.b).r = some (if f.sd then c else f.s.b) ∧ Lay M f.s ∧ LayC M C f.b

theorem fill_b (f : Frm) (t : Tr) : (f.fill t).b = f.b := by unfold Frm.fill; split <;> rfl
theorem fill_ht (f : Frm) (t : Tr) : (f.fill t).ht = 1 + max t.ht f.s.ht := by unfold Frm.fill; split <;> simp only [Tr.ht] <;> omega
theorem fill_bs (f : Frm) (t : Tr) : (f.fill t).bs.Perm (f.b :: (f.s.bs ++ t.bs)) := by
  unfold Frm.fill; split
  · exact List.Perm.refl _
  · exact List.Perm.cons _ List.perm_append_comm
theorem fill_lv (f : Frm) (t : Tr) : (f.fill t).lv.Perm (f.s.lv ++ t.lv) := by
  unfold Frm.fill; split
  · exact List.Perm.refl _
  · exact List.perm_append_comm
theorem plug_b : ∀ (C : List Frm) (t : Tr), (plug C t).b = ctop C t.b
  | [], _ => rfl
  | f :: C, t => by rw [plug, plug_b C, fill_b]; rfl
theorem plug_bs : ∀ (C : List Frm) (t : Tr), (plug C t).bs.Perm (cbs C ++ t.bs)
  | [], _ => List.Perm.refl _
  | f :: C, t => by
    refine (plug_bs C _).trans ?_
    refine ((fill_bs f t).append_left _).trans ?_
    simp only [cbs, List.cons_append, List.append_assoc]
    refine List.perm_middle.trans (List.Perm.cons _ ?_)
    rw [← List.append_assoc, ← List.append_assoc]
    exact List.perm_append_comm.append_right _
theorem plug_lv : ∀ (C : List Frm) (t : Tr), (plug C t).lv.Perm (clv C ++ t.lv)
  | [], _ => List.Perm.refl _
  | f :: C, t => by
    refine (plug_lv C _).trans ?_
    refine ((fill_lv f t).append_left _).trans ?_
    simp only [clv]
    rw [← List.append_assoc]
    exact List.perm_append_comm.append_right _
theorem plug_bal : ∀ (C : List Frm) (t : Tr), (plug C t).bal → t.bal ∧ cbal C t.ht
  | [], _, h => ⟨h, trivial⟩
  | f :: C, t, h => by
    obtain ⟨h1, h2⟩ := plug_bal C _ h
    rw [fill_ht] at h2
    unfold Frm.fill at h1
    split at h1 <;> obtain ⟨a, b, c, d⟩ := h1
    · exact ⟨b, a, c, d, h2⟩
    · exact ⟨a, b, d, c, h2⟩
theorem plug_lay {M : Nat → Nd} : ∀ (C : List Frm) (t : Tr), Lay M (plug C t) → (M (plug C t).b).p = none → Lay M t ∧ LayC M C t.b
  | [], t, h, hp => ⟨h, hp⟩
  | f :: C, t, h, hp => by
    obtain ⟨h1, h2⟩ := plug_lay C _ h hp
    rw [fill_b] at h2
    unfold Frm.fill at h1
    cases hsd : f.sd
    · rw [hsd] at h1
      obtain ⟨a1, a2, a3, a4, a5, a6, a7, a8⟩ := h1
      refine ⟨a7, a5, a6, ?_, ?_, a8, h2⟩ <;> simp [hsd, a3, a4]
    · rw [hsd] at h1
      obtain ⟨a1, a2, a3, a4, a5, a6, a7, a8⟩ := h1
      refine ⟨a8, a6, a5, ?_, ?_, a7, h2⟩ <;> simp [hsd, a3, a4]
/-- Each leaf of a tree stands at the end of a way. -/
theorem leaf_way : ∀ (t : Tr) (e : Nat × Int × Bx), e ∈ t.lv → ∃ C, t = plug C (.leaf e.1 e.2.1 e.2.2) := by
  suffices h : ∀ (t : Tr) (e : Nat × Int × Bx), e ∈ t.lv → ∀ D, ∃ C, plug D t = plug C (.leaf e.1 e.2.1 e.2.2) from fun t e he => h t e he []
  intro t
  induction t with
  | leaf b i x =>
    intro e he D
    simp only [Tr.lv, List.mem_singleton] at he
    subst he
    exact ⟨D, rfl⟩
  | node b l r ihl ihr =>
    intro e he D
    simp only [Tr.lv, List.mem_append] at he
    rcases he with he | he
    · exact ihl e he (⟨b, false, r⟩ :: D)
    · exact ihr e he (⟨b, true, l⟩ :: D)

theorem LayC.cong {M M' : Nat → Nd} : ∀ {C : List Frm} {c : Nat}, LayC M C c → (cbs C).Nodup → (∀ k ∈ cbs C, M' k = M k) → (M' c).p = (M c).p → LayC M' C c
  | [], c, h, _, _, hp => hp.trans h
  | f :: C, c, ⟨h1, h2, h3, h4, h5, h6⟩, hn, hs, hp => by
    simp only [cbs, List.nodup_cons, List.mem_append, not_or, List.nodup_append] at hn
    have e1 := hs f.b (by simp [cbs])
    have e2 := hs f.s.b (by simp [cbs, f.s.b_mem])
    refine ⟨hp.trans h1, by rw [e2]; exact h2, by rw [e1]; exact h3, by rw [e1]; exact h4, h5.same hn.2.1 (fun k hk => hs k (by simp [cbs, hk])), LayC.cong h6 hn.2.2.1 (fun k hk => hs k (by simp [cbs, hk])) (by rw [e1])⟩

/-- n in the place of o. -/
def replM (M : Nat → Nd) (o n : Nat) : Nat → Nd := fun c =>
  if c = n then { M n with p := (M o).p } else
  if (M o).p = some c then (if (M c).l = some o then { M c with l := some n } else { M c with r := some n }) else M c
def replR (M : Nat → Nd) (o n : Nat) (root : Option Nat) : Option Nat := if (M o).p = none then some n else root
/-- n adopts a and b. -/
def adM (M : Nat → Nd) (n a b : Nat) : Nat → Nd := fun c =>
  if c = n then { M n with x := Bx.uni (M a).x (M b).x, h := 1 + max (M a).h (M b).h, l := some a, r := some b } else
  if c = a ∨ c = b then { M c with p := some n } else M c

theorem replM_other {M : Nat → Nd} {o n c : Nat} (h1 : c ≠ n) (h2 : (M o).p ≠ some c) : replM M o n c = M c := by simp [replM, h1, h2]
theorem replM_self (M : Nat → Nd) (o n : Nat) : replM M o n n = { M n with p := (M o).p } := by simp [replM]
theorem adM_other {M : Nat → Nd} {n a b c : Nat} (h1 : c ≠ n) (h2 : c ≠ a) (h3 : c ≠ b) : adM M n a b c = M c := by simp [adM, h1, h2, h3]

theorem LayC.repl {M : Nat → Nd} : ∀ {C : List Frm} {o n : Nat}, LayC M C o → (cbs C).Nodup → o ∉ cbs C → n ∉ cbs C → LayC (replM M o n) C n
  | [], o, n, h, _, _, _ => by show (replM M o n n).p = none; rw [replM_self]; exact h
  | f :: C, o, n, ⟨h1, h2, h3, h4, h5, h6⟩, hnd, ho, hn => by
    simp only [cbs, List.mem_cons, List.mem_append, not_or] at ho hn
    simp only [cbs, List.nodup_cons, List.mem_append, not_or, List.nodup_append] at hnd
    obtain ⟨⟨n1, n2⟩, n3, n4, n5⟩ := hnd
    obtain ⟨hn1, hn2, hn3⟩ := hn
    obtain ⟨ho1, ho2, ho3⟩ := ho
    have hs : ∀ c ∈ f.s.bs, replM M o n c = M c := fun c hc => replM_other (fun e => hn2 (e ▸ hc)) (by rw [h1]; simp; rintro rfl; exact n1 hc)
    have hC : ∀ c ∈ cbs C, replM M o n c = M c := fun c hc => replM_other (fun e => hn3 (e ▸ hc)) (by rw [h1]; simp; rintro rfl; exact n2 hc)
    have hb : (replM M o n f.b).p = (M f.b).p := by
      unfold replM; rw [if_neg (by omega), if_pos h1]
      by_cases e : (M f.b).l = some o
      · rw [if_pos e]
      · rw [if_neg e]
    have hso : f.s.b ≠ o := fun e => ho2 (e ▸ f.s.b_mem)
    refine ⟨by rw [replM_self]; exact h1, by rw [hs _ f.s.b_mem]; exact h2, ?_, ?_, h5.same n3 hs, h6.cong n4 hC hb⟩
    · unfold replM
      rw [if_neg (by omega), if_pos h1]
      cases hsd : f.sd <;> simp only [hsd, Bool.false_eq_true, if_false, if_true] at h3 h4 ⊢
      · rw [if_pos h3]
      · rw [if_neg (by rw [h3]; simp [hso])]; exact h3
    · unfold replM
      rw [if_neg (by omega), if_pos h1]
      cases hsd : f.sd <;> simp only [hsd, Bool.false_eq_true, if_false, if_true] at h3 h4 ⊢
      · rw [if_pos h3]; exact h4
      · rw [if_neg (by rw [h3]; simp [hso])]

theorem replR_top {M : Nat → Nd} : ∀ {C : List Frm} {o : Nat} (n : Nat), LayC M C o → replR M o n (some (ctop C o)) = some (ctop C n)
  | [], o, n, h => by unfold replR; rw [if_pos (show (M o).p = none from h)]; rfl
  | f :: C, o, n, h => by unfold replR; rw [if_neg (by rw [h.1]; simp)]; rfl

/-- What lies off the way from o to the root stays as it was. -/
theorem LayC.off {M : Nat → Nd} : ∀ {C : List Frm} {o : Nat}, LayC M C o → ∀ {c}, c ∉ cbs C → (M o).p ≠ some c
  | [], o, h, c, _ => by rw [h]; simp
  | f :: C, o, h, c, hc => by rw [h.1]; simp only [cbs, List.mem_cons, not_or] at hc; simp; exact fun e => hc.1 e.symm

theorem Lay.ad {M : Nat → Nd} {n : Nat} {a b : Tr} (ha : Lay M a) (hb : Lay M b) (hn : (n :: (a.bs ++ b.bs)).Nodup) : Lay (adM M n a.b b.b) (.node n a b) := by
  simp only [List.nodup_cons, List.mem_append, not_or, List.nodup_append] at hn
  obtain ⟨⟨n1, n2⟩, n3, n4, n5⟩ := hn
  have ea : a.b ≠ n := fun e => n1 (e ▸ a.b_mem)
  have eb : b.b ≠ n := fun e => n2 (e ▸ b.b_mem)
  have hna : ∀ c ∈ a.bs, c ≠ n := fun c hc e => n1 (e ▸ hc)
  have hnb : ∀ c ∈ b.bs, c ≠ n := fun c hc e => n2 (e ▸ hc)
  refine ⟨?_, ?_, ?_, ?_, ?_, ?_, ha.cong n3 fun c hc => ?_, hb.cong n4 fun c hc => ?_⟩
  · simp [adM, ha.box, hb.box]
  · simp only [adM, if_true, ha.ht, hb.ht]; omega
  · simp [adM]
  · simp [adM]
  · simp [adM, ea]
  · simp [adM, eb]
  · by_cases e : c = a.b
    · exact .inr ⟨e, some n, by simp [adM, e, ea]⟩
    · exact .inl (adM_other (hna c hc) e (fun e' => n5 c hc _ b.b_mem e'))
  · by_cases e : c = b.b
    · exact .inr ⟨e, some n, by simp [adM, e, eb]⟩
    · exact .inl (adM_other (hnb c hc) (fun e' => n5 _ a.b_mem c hc e'.symm) e)

theorem LayC.ad {M : Nat → Nd} {C : List Frm} {c n a b : Nat} (h : LayC M C c) (hC : (cbs C).Nodup) (hn : n ∉ cbs C) (ha : a ∉ cbs C) (hb : b ∉ cbs C) (hca : c ≠ a) (hcb : c ≠ b) : LayC (adM M n a b) C c := by
  refine h.cong hC (fun k hk => adM_other (fun e => hn (e ▸ hk)) (fun e => ha (e ▸ hk)) (fun e => hb (e ▸ hk))) ?_
  unfold adM
  split
  · rename_i e; subst e; rfl
  · rw [if_neg (by simp [hca, hcb])]

/-- A tree with a way to the root. -/
structure St (M : Nat → Nd) (root : Option Nat) (C : List Frm) (t : Tr) : Prop where
  lay : Lay M t
  way : LayC M C t.b
  nd : (cbs C ++ t.bs).Nodup
  root : root = some (ctop C t.b)
/-- Two trees whose parent n has a way to the root. -/
structure Kids (M : Nat → Nd) (root : Option Nat) (C : List Frm) (n : Nat) (a b : Tr) : Prop where
  la : Lay M a
  lb : Lay M b
  pa : (M a.b).p = some n
  pb : (M b.b).p = some n
  way : LayC M C n
  nd : (cbs C ++ (n :: (a.bs ++ b.bs))).Nodup
  root : root = some (ctop C n)

theorem Kids.swap {M : Nat → Nd} {root : Option Nat} {C : List Frm} {n : Nat} {a b : Tr} (h : Kids M root C n a b) : Kids M root C n b a :=
  ⟨h.lb, h.la, h.pb, h.pa, h.way, (List.Perm.nodup_iff (List.Perm.append_left _ (List.Perm.cons _ List.perm_append_comm))).1 h.nd, h.root⟩

theorem St.kids {M : Nat → Nd} {root : Option Nat} {C : List Frm} {f : Frm} {t : Tr} (h : St M root (f :: C) t) :
    Kids M root C f.b (if f.sd then f.s else t) (if f.sd then t else f.s) ∧ (M f.b).l = some (if f.sd then f.s else t).b ∧ (M f.b).r = some (if f.sd then t else f.s).b := by
  obtain ⟨h1, ⟨h2, h3, h4, h5, h6, h7⟩, h8, h9⟩ := h
  have hp : (cbs (f :: C) ++ t.bs).Perm (cbs C ++ (f.b :: (t.bs ++ f.s.bs))) := by
    simp only [cbs, List.cons_append]
    refine List.Perm.trans (List.Perm.cons _ ?_) List.perm_middle.symm
    refine (List.perm_append_comm.append_right _).trans ?_
    rw [List.append_assoc]
    exact List.perm_append_comm.append_left _
  have hk : Kids M root C f.b t f.s := ⟨h1, h6, h2, h3, h7, hp.nodup_iff.1 h8, h9⟩
  cases hsd : f.sd <;> simp only [hsd, Bool.false_eq_true, if_false, if_true] at h4 h5 ⊢
  · exact ⟨hk, h4, h5⟩
  · exact ⟨hk.swap, h4, h5⟩

theorem Kids.adopt {M : Nat → Nd} {root : Option Nat} {C : List Frm} {n : Nat} {a b : Tr} (h : Kids M root C n a b) : St (adM M n a.b b.b) root C (.node n a b) := by
  have hd := h.nd
  rw [List.nodup_append] at hd
  obtain ⟨d1, d2, d3⟩ := hd
  have hn : n ∉ cbs C := fun e => d3 _ e n (by simp) rfl
  have ha : a.b ∉ cbs C := fun e => d3 _ e a.b (by simp [a.b_mem]) rfl
  have hb : b.b ∉ cbs C := fun e => d3 _ e b.b (by simp [b.b_mem]) rfl
  have hd2 := d2
  simp only [List.nodup_cons, List.mem_append, not_or] at hd2
  exact ⟨h.la.ad h.lb d2, h.way.ad d1 hn ha hb (fun e => hd2.1.1 (e ▸ a.b_mem)) (fun e => hd2.1.2 (e ▸ b.b_mem)), h.nd, h.root⟩

/-- n's higher child is lifted into its place: it gives g away and keeps k. -/
theorem Kids.lift {M : Nat → Nd} {root : Option Nat} {C : List Frm} {n hb : Nat} {lo g k hi : Tr} (h : Kids M root C n lo hi) (hhi : hi = .node hb g k ∨ hi = .node hb k g) :
    St (adM (adM (replM M n hb) n lo.b g.b) hb n k.b) (replR M n hb root) C (.node hb (.node n lo g) k) := by
  have hbs : hi.bs.Perm (hb :: (g.bs ++ k.bs)) := by
    rcases hhi with rfl | rfl
    · exact List.Perm.refl _
    · exact List.Perm.cons _ List.perm_append_comm
  have hgk : Lay M g ∧ Lay M k ∧ hi.b = hb := by
    rcases hhi with rfl | rfl
    · exact ⟨h.lb.2.2.2.2.2.2.1, h.lb.2.2.2.2.2.2.2, rfl⟩
    · exact ⟨h.lb.2.2.2.2.2.2.2, h.lb.2.2.2.2.2.2.1, rfl⟩
  obtain ⟨hg, hk, hbb⟩ := hgk
  have hlo := h.la
  have hnd : (cbs C ++ (n :: (lo.bs ++ (hb :: (g.bs ++ k.bs))))).Nodup := (List.Perm.nodup_iff (List.Perm.append_left _ (List.Perm.cons _ (List.Perm.append_left _ hbs)))).1 h.nd
  have hway := h.way
  have hroot := h.root
  clear h hhi hbs hbb
  have hP : (cbs C ++ (hb :: ((n :: (lo.bs ++ g.bs)) ++ k.bs))).Nodup := by
    refine (List.Perm.nodup_iff (List.Perm.append_left _ ?_)).1 hnd
    refine List.Perm.trans (List.Perm.cons _ List.perm_middle) ?_
    refine List.Perm.trans (List.Perm.swap _ _ _) ?_
    simp only [List.cons_append, List.append_assoc]
    exact List.Perm.refl _
  simp only [List.nodup_append, List.nodup_cons, List.mem_append, List.mem_cons, not_or] at hnd
  obtain ⟨d1, ⟨⟨e1, e2, e3, e4⟩, d2, ⟨⟨e5, e6⟩, d3, d4, d5⟩, d6⟩, d7⟩ := hnd
  have o1 : ∀ c ∈ lo.bs, c ∉ cbs C ∧ c ≠ n ∧ c ≠ hb := fun c hc => ⟨fun e => d7 c e c (by simp [hc]) rfl, fun e => e1 (e ▸ hc), fun e => d6 c hc hb (by simp) e⟩
  have o2 : ∀ c ∈ g.bs, c ∉ cbs C ∧ c ≠ n ∧ c ≠ hb := fun c hc => ⟨fun e => d7 c e c (by simp [hc]) rfl, fun e => e3 (e ▸ hc), fun e => e5 (e ▸ hc)⟩
  have o3 : ∀ c ∈ k.bs, c ∉ cbs C ∧ c ≠ n ∧ c ≠ hb := fun c hc => ⟨fun e => d7 c e c (by simp [hc]) rfl, fun e => e4 (e ▸ hc), fun e => e6 (e ▸ hc)⟩
  have hnC : n ∉ cbs C := fun e => d7 n e n (by simp) rfl
  have hhC : hb ∉ cbs C := fun e => d7 hb e hb (by simp) rfl
  -- replace
  have r1 : Lay (replM M n hb) lo := hlo.same d2 fun c hc => replM_other (o1 c hc).2.2 (hway.off (o1 c hc).1)
  have r2 : Lay (replM M n hb) g := hg.same d3 fun c hc => replM_other (o2 c hc).2.2 (hway.off (o2 c hc).1)
  have r3 : Lay (replM M n hb) k := hk.same d4 fun c hc => replM_other (o3 c hc).2.2 (hway.off (o3 c hc).1)
  have r4 : LayC (replM M n hb) C hb := hway.repl d1 hnC hhC
  have r5 : replR M n hb root = some (ctop C hb) := by rw [hroot]; exact replR_top hb hway
  -- n adopts lo and g
  have s1 : Lay (adM (replM M n hb) n lo.b g.b) (.node n lo g) := r1.ad r2 (by
    simp only [List.nodup_append, List.nodup_cons, List.mem_append, not_or]
    exact ⟨⟨e1, e3⟩, d2, d3, fun a ha b hb' => d6 a ha b (by simp [hb'])⟩)
  have s2 : Lay (adM (replM M n hb) n lo.b g.b) k := r3.same d4 fun c hc => adM_other (o3 c hc).2.1 (fun e => d6 lo.b lo.b_mem c (by simp [hc]) e.symm) (fun e => d5 g.b g.b_mem c hc e.symm)
  have s3 : LayC (adM (replM M n hb) n lo.b g.b) C hb := r4.ad d1 hnC (o1 _ lo.b_mem).1 (o2 _ g.b_mem).1 (fun e => (o1 _ lo.b_mem).2.2 e.symm) (fun e => (o2 _ g.b_mem).2.2 e.symm)
  -- hb adopts n and k
  have hP2 := hP
  rw [List.nodup_append] at hP2
  refine ⟨s1.ad s2 hP2.2.1, s3.ad d1 hhC hnC (o3 _ k.b_mem).1 (fun e => e2 e.symm) (fun e => (o3 _ k.b_mem).2.2 e.symm), hP, r5⟩

/-- What balance hands back: the two children at the node itself, or the higher one in its place. -/
theorem bal_flat {n : Nat} {lo hi : Tr} (h1 : lo.bal) (h2 : hi.bal) (h3 : lo.ht ≤ hi.ht) (h4 : hi.ht ≤ lo.ht + 1) : (Tr.node n lo hi).bal := ⟨h1, h2, by omega, h4⟩
theorem bal_lift {n hb : Nat} {lo g k hi : Tr} (hhi : hi = .node hb g k ∨ hi = .node hb k g) (h1 : lo.bal) (h2 : hi.bal) (h3 : hi.ht = lo.ht + 2) (hgk : g.ht ≤ k.ht) :
    (Tr.node hb (.node n lo g) k).bal ∧ hi.ht ≤ (Tr.node hb (.node n lo g) k).ht ∧ (Tr.node hb (.node n lo g) k).ht ≤ hi.ht + 1 := by
  rcases hhi with rfl | rfl <;> obtain ⟨a1, a2, a3, a4⟩ := h2 <;> simp only [Tr.bal, Tr.ht] at h3 ⊢
  · exact ⟨⟨⟨h1, a1, by omega, by omega⟩, a2, by omega, by omega⟩, by omega, by omega⟩
  · exact ⟨⟨⟨h1, a2, by omega, by omega⟩, a1, by omega, by omega⟩, by omega, by omega⟩

/-! The boxes: a search that misses a node's box misses all leaves below it. -/
theorem Bx.uni_of {a b : Bx} (ha : a.val = true) (hb : b.val = true) : Bx.uni a b = ⟨min a.x0 b.x0, min a.y0 b.y0, max a.x1 b.x1, max a.y1 b.y1⟩ := by simp [Bx.uni, ha, hb]
theorem Bx.uni_val {a b : Bx} (ha : a.val = true) (hb : b.val = true) : (Bx.uni a b).val = true := by
  rw [Bx.uni_of ha hb, Bx.val_iff]
  obtain ⟨p1, p2, p3, p4, p5, p6⟩ := Bx.val_iff.1 ha
  obtain ⟨q1, q2, q3, q4, q5, q6⟩ := Bx.val_iff.1 hb
  simp only [Bx.ok]
  refine ⟨by omega, by omega, ?_, ?_, ?_, ?_⟩
  · rcases Int.le_total a.x0 b.x0 with h | h <;> simp only [Int.min_eq_left, Int.min_eq_right, h] <;> assumption
  · rcases Int.le_total a.y0 b.y0 with h | h <;> simp only [Int.min_eq_left, Int.min_eq_right, h] <;> assumption
  · rcases Int.le_total a.x1 b.x1 with h | h <;> simp only [Int.max_eq_left, Int.max_eq_right, h] <;> assumption
  · rcases Int.le_total a.y1 b.y1 with h | h <;> simp only [Int.max_eq_left, Int.max_eq_right, h] <;> assumption
/-- A test of boxes that a larger box passes too. -/
def Mono (m : Bx → Bool) : Prop := ∀ a b : Bx, a.val = true → b.val = true → (m a = true ∨ m b = true) → m (Bx.uni a b) = true
def Tr.vl (t : Tr) : Prop := ∀ e ∈ t.lv, e.2.2.val = true
theorem Tr.box_val : ∀ t : Tr, t.vl → t.box.val = true
  | .leaf b i x, h => h (b, i, x) (by simp [Tr.lv])
  | .node b l r, h => Bx.uni_val (l.box_val fun e he => h e (by simp [Tr.lv, he])) (r.box_val fun e he => h e (by simp [Tr.lv, he]))
theorem Tr.miss {m : Bx → Bool} (hm : Mono m) : ∀ t : Tr, t.vl → m t.box = false → ∀ e ∈ t.lv, m e.2.2 = false
  | .leaf b i x, h, hb, e, he => by simp only [Tr.lv, List.mem_singleton] at he; subst he; exact hb
  | .node b l r, h, hb, e, he => by
    have hl : l.vl := fun e he => h e (by simp [Tr.lv, he])
    have hr : r.vl := fun e he => h e (by simp [Tr.lv, he])
    have hn := hm l.box r.box (l.box_val hl) (r.box_val hr)
    simp only [Tr.box] at hb
    rw [hb] at hn
    simp only [Tr.lv, List.mem_append] at he
    rcases he with he | he
    · exact l.miss hm hl (by cases h : m l.box <;> simp_all) e he
    · exact r.miss hm hr (by cases h : m r.box <;> simp_all) e he
theorem Tr.hits_eq {m : Bx → Bool} (hm : Mono m) : ∀ t : Tr, t.vl → t.hits m = (t.lv.filter fun e => m e.2.2).map (·.2.1)
  | .leaf b i x, h => by simp only [Tr.hits, Tr.lv]; cases e : m x <;> simp [e]
  | .node b l r, h => by
    have hl : l.vl := fun e he => h e (by simp [Tr.lv, he])
    have hr : r.vl := fun e he => h e (by simp [Tr.lv, he])
    simp only [Tr.hits]
    split
    · rw [l.hits_eq hm hl, r.hits_eq hm hr]; simp [Tr.lv]
    · rename_i hb
      have := Tr.miss hm (.node b l r) h (show m (Bx.uni l.box r.box) = false by simpa using hb)
      rw [List.filter_eq_nil_iff.2 (fun e he => by rw [this e he]; simp)]
      rfl
theorem mono_ovl (q : Bx) : Mono fun a => Bx.ovl a q := by
  intro a b ha hb h
  have hv := Bx.uni_val ha hb
  rw [Bx.uni_of ha hb] at hv ⊢
  simp only [Bx.ovl, hv, ha, hb, Bool.and_eq_true, decide_eq_true_eq, true_and] at h ⊢
  rcases h with ⟨⟨⟨⟨h1, h2⟩, h3⟩, h4⟩, h5⟩ | ⟨⟨⟨⟨h1, h2⟩, h3⟩, h4⟩, h5⟩ <;> exact ⟨⟨⟨⟨h1, by omega⟩, by omega⟩, by omega⟩, by omega⟩

theorem aff_pos {A B x y c X0 Y0 X1 Y1 : Int} (hx : X0 ≤ x) (hx' : x ≤ X1) (hy : Y0 ≤ y) (hy' : y ≤ Y1)
    (h0 : 0 < A * Y0 - B * X0 + c) (h1 : 0 < A * Y0 - B * X1 + c) (h2 : 0 < A * Y1 - B * X1 + c) (h3 : 0 < A * Y1 - B * X0 + c) : 0 < A * y - B * x + c := by
  rcases Int.le_total 0 A with hA | hA <;> rcases Int.le_total 0 B with hB | hB
  · have := Int.mul_le_mul_of_nonneg_left hy hA; have := Int.mul_le_mul_of_nonneg_left hx' hB; omega
  · have := Int.mul_le_mul_of_nonneg_left hy hA; have := Int.mul_le_mul_of_nonpos_left hB hx; omega
  · have := Int.mul_le_mul_of_nonpos_left hA hy'; have := Int.mul_le_mul_of_nonneg_left hx' hB; omega
  · have := Int.mul_le_mul_of_nonpos_left hA hy'; have := Int.mul_le_mul_of_nonpos_left hB hx; omega
theorem det_aff (fx fy tx ty x y : Int) : det fx fy tx ty x y = (sat tx - sat fx) * sat y - (sat ty - sat fy) * sat x + ((sat ty - sat fy) * sat fx - (sat tx - sat fx) * sat fy) := by unfold det; grind
theorem count_four (b : Bx) (fx fy tx ty s : Int) : decide (b.count fx fy tx ty s 4 < 4) = false ↔ ∀ k : Nat, k < 4 → b.side fx fy tx ty k = s := by
  have c0 := b.count_in fx fy tx ty s 0
  simp only [decide_eq_false_iff_not, Int.not_lt]
  simp only [Bx.count]
  constructor
  · intro h k hk
    by_cases e0 : b.side fx fy tx ty 0 = s <;> by_cases e1 : b.side fx fy tx ty 1 = s <;> by_cases e2 : b.side fx fy tx ty 2 = s <;> by_cases e3 : b.side fx fy tx ty 3 = s <;> simp only [e0, e1, e2, e3, if_true, if_false] at h <;> try omega
    rcases (by omega : k = 0 ∨ k = 1 ∨ k = 2 ∨ k = 3) with rfl | rfl | rfl | rfl <;> assumption
  · intro h
    simp [h 0 (by decide), h 1 (by decide), h 2 (by decide), h 3 (by decide)]
theorem orient_pos {fx fy tx ty x y : Int} : orient fx fy tx ty x y = 1 ↔ 0 < det fx fy tx ty x y := by unfold orient sgn; split <;> simp_all; split <;> simp_all
theorem orient_neg {fx fy tx ty x y : Int} : orient fx fy tx ty x y = -1 ↔ det fx fy tx ty x y < 0 := by unfold orient sgn; split <;> (try split) <;> simp_all <;> omega
/-- A box in another one: if the larger one's corners lie all on one side of a line, so do the smaller one's. -/
theorem side_in {a u : Bx} (ha : a.ok) (hu : u.ok) (h0 : u.x0 ≤ a.x0) (h1 : a.x1 ≤ u.x1) (h2 : u.y0 ≤ a.y0) (h3 : a.y1 ≤ u.y1) {fx fy tx ty s : Int} (hs : s = 1 ∨ s = -1)
    (h : ∀ k : Nat, k < 4 → u.side fx fy tx ty k = s) : ∀ k : Nat, k < 4 → a.side fx fy tx ty k = s := by
  obtain ⟨p1, p2, p3, p4, p5, p6⟩ := ha
  obtain ⟨q1, q2, q3, q4, q5, q6⟩ := hu
  have k0 := h 0 (by decide); have k1 := h 1 (by decide); have k2 := h 2 (by decide); have k3 := h 3 (by decide)
  simp only [Bx.side, Bx.cx, Bx.cy] at k0 k1 k2 k3
  simp only [reduceCtorEq, Nat.reduceEqDiff, or_self, or_true, or_false, if_true, if_false] at k0 k1 k2 k3
  have fin : ∀ x y : Int, sat x = x → sat y = y → u.x0 ≤ x → x ≤ u.x1 → u.y0 ≤ y → y ≤ u.y1 → orient fx fy tx ty x y = s := by
    intro x y ex ey hx hx' hy hy'
    rcases hs with rfl | rfl
    · rw [orient_pos, det_aff] at k0 k1 k2 k3 ⊢
      rw [← q3, ← q4] at k0; rw [← q5, ← q4] at k1; rw [← q5, ← q6] at k2; rw [← q3, ← q6] at k3
      rw [ex, ey]
      exact aff_pos hx hx' hy hy' k0 k1 k2 k3
    · rw [orient_neg, det_aff] at k0 k1 k2 k3 ⊢
      rw [← q3, ← q4] at k0; rw [← q5, ← q4] at k1; rw [← q5, ← q6] at k2; rw [← q3, ← q6] at k3
      rw [ex, ey]
      have := @aff_pos (-(sat tx - sat fx)) (-(sat ty - sat fy)) x y (-((sat ty - sat fy) * sat fx - (sat tx - sat fx) * sat fy)) u.x0 u.y0 u.x1 u.y1 hx hx' hy hy'
      simp only [Int.neg_mul] at this
      have := this (by omega) (by omega) (by omega) (by omega)
      omega
  intro k hk
  rcases (by omega : k = 0 ∨ k = 1 ∨ k = 2 ∨ k = 3) with rfl | rfl | rfl | rfl
  · exact fin a.x0 a.y0 p3.symm p4.symm (by omega) (by omega) (by omega) (by omega)
  · exact fin a.x1 a.y0 p5.symm p4.symm (by omega) (by omega) (by omega) (by omega)
  · exact fin a.x1 a.y1 p5.symm p6.symm (by omega) (by omega) (by omega) (by omega)
  · exact fin a.x0 a.y1 p3.symm p6.symm (by omega) (by omega) (by omega) (by omega)
theorem mono_seg (fx fy tx ty : Int) : Mono fun a => Bx.seg a fx fy tx ty := by
  intro a b ha hb h
  have hv := Bx.uni_val ha hb
  have ho := mono_ovl (Bx.two fx fy tx ty) a b ha hb
  have hok := Bx.val_iff.1 hv
  have key : ∀ c : Bx, c.val = true → (Bx.uni a b).x0 ≤ c.x0 → c.x1 ≤ (Bx.uni a b).x1 → (Bx.uni a b).y0 ≤ c.y0 → c.y1 ≤ (Bx.uni a b).y1 → ∀ s : Int, s = 1 ∨ s = -1 → decide (c.count fx fy tx ty s 4 < 4) = true → decide ((Bx.uni a b).count fx fy tx ty s 4 < 4) = true := by
    intro c hc h0 h1 h2 h3 s hs hd
    cases e : decide ((Bx.uni a b).count fx fy tx ty s 4 < 4) with
    | true => rfl
    | false =>
      have := (count_four c fx fy tx ty s).2 (side_in (Bx.val_iff.1 hc) hok h0 h1 h2 h3 hs ((count_four _ fx fy tx ty s).1 e))
      rw [this] at hd; exact hd
  have ka := key a ha (by rw [Bx.uni_of ha hb]; simp only; omega) (by rw [Bx.uni_of ha hb]; simp only; omega) (by rw [Bx.uni_of ha hb]; simp only; omega) (by rw [Bx.uni_of ha hb]; simp only; omega)
  have kb := key b hb (by rw [Bx.uni_of ha hb]; simp only; omega) (by rw [Bx.uni_of ha hb]; simp only; omega) (by rw [Bx.uni_of ha hb]; simp only; omega) (by rw [Bx.uni_of ha hb]; simp only; omega)
  simp only [Bx.seg, Bool.and_eq_true] at h ⊢
  rcases h with ⟨⟨h1, h2⟩, h3⟩ | ⟨⟨h1, h2⟩, h3⟩
  · exact ⟨⟨ho (.inl h1), ka 1 (.inl rfl) h2⟩, ka (-1) (.inr rfl) h3⟩
  · exact ⟨⟨ho (.inr h1), kb 1 (.inl rfl) h2⟩, kb (-1) (.inr rfl) h3⟩

end Go.Proofs.Ytfhhkabdeajieaa
