/- Package polygon: mathematics of the landed code: the box of the points, the two chains over the sorted points, duplicates that lie side by side. -/
import Derived.Test.YtncijpaooiopfaaMa5
set_option linter.unusedVariables false
namespace Go.Proofs.Ytncijpaooiopfaa
open Go.RowKit Fx

def inB (b : Bx) : Prop := -1048576 ≤ b.x0 ∧ b.x1 ≤ 1048576 ∧ -1048576 ≤ b.y0 ∧ b.y1 ≤ 1048576
theorem sat_big (x : Int) : (-1048576 ≤ sat x ↔ -1048576 ≤ x) ∧ (sat x ≤ 1048576 ↔ x ≤ 1048576) := by
  unfold sat; split <;> (try split) <;> omega
theorem fold_inB : ∀ (ps : List Pt) (b : Bx), inB (ps.foldl Bx.step b) ↔ inB b ∧ ∀ p ∈ ps, inrP p
  | [], b => by simp
  | p :: ps, b => by
    rw [List.foldl_cons, fold_inB ps]
    have hx := sat_big p.1
    have hy := sat_big p.2
    have : inB (b.step p) ↔ inB b ∧ inrP p := by
      unfold inB Bx.step inrP; dsimp only; omega
    rw [this]
    simp only [List.mem_cons, forall_eq_or_imp, and_assoc]
theorem pts_inB {ps : List Pt} (h : 0 < ps.length) : inB (Bx.pts ps) ↔ ∀ p ∈ ps, inrP p := by
  cases ps with
  | nil => simp at h
  | cons p ps =>
    show inB (ps.foldl Bx.step (Bx.one p)) ↔ _
    rw [fold_inB]
    have hx := sat_big p.1
    have hy := sat_big p.2
    have : inB (Bx.one p) ↔ inrP p := by
      unfold inB Bx.one inrP; dsimp only; omega
    rw [this]
    simp only [List.mem_cons, forall_eq_or_imp]
def allIn (ps : List Pt) : Bool := decide (∀ p ∈ ps, inrP p)
theorem box_in {ps : List Pt} (h : 0 < ps.length) : con8 (-1048576) (-1048576) 1048576 1048576 (Bx.pts ps).x0 (Bx.pts ps).y0 (Bx.pts ps).x1 (Bx.pts ps).y1 = allIn ps := by
  have h1 : (Bx.mk (-1048576) (-1048576) 1048576 1048576).val = true := by decide +kernel
  have h2 : (Bx.pts ps).val = true := Bx.val_iff.2 (Bx.pts_ok h)
  have h3 := pts_inB h
  unfold con8 Bx.con allIn
  rw [h1]
  rw [Bool.eq_iff_iff]
  simp only [Bool.true_and, Bool.and_eq_true, decide_eq_true_eq]
  rw [← h3]
  unfold inB
  constructor
  · rintro ⟨⟨⟨⟨-, a⟩, b⟩, c⟩, d⟩; exact ⟨a, b, c, d⟩
  · rintro ⟨a, b, c, d⟩; exact ⟨⟨⟨⟨h2, a⟩, b⟩, c⟩, d⟩

theorem pop_neg (p : Pt) : ∀ l : List Pt, pop (neg p) (l.map neg) = (pop p l).map neg
  | [] => rfl
  | [s] => rfl
  | s :: t :: r => by
    have ih := pop_neg p (t :: r)
    simp only [List.map_cons] at ih ⊢
    unfold pop
    rw [dt_neg]
    split
    · exact ih
    · rfl
theorem mono_neg (P : List Pt) : mono (P.map neg) = (mono P).map neg := by
  have key : ∀ (P st : List Pt), (P.map neg).foldl (fun st p => p :: pop p st) (st.map neg) = (P.foldl (fun st p => p :: pop p st) st).map neg := by
    intro P
    induction P with
    | nil => intro st; rfl
    | cons p P ih =>
      intro st
      simp only [List.map_cons, List.foldl_cons]
      rw [pop_neg, ← List.map_cons, ih]
  exact key P []
theorem rev_ngl (P : List Pt) : P.reverse = (ngl P).map neg := by
  unfold ngl
  rw [List.map_reverse, List.map_map]
  congr 1
  have : (neg ∘ neg) = (id : Pt → Pt) := funext fun x => neg_neg' x
  rw [this, List.map_id]
theorem mono_rev (P : List Pt) : mono P.reverse = (mono (ngl P)).map neg := by rw [rev_ngl, mono_neg]
/-- The list that the program makes of points in rising order. -/
def hullL (P : List Pt) : List Pt := (mono P).tail.reverse ++ (mono P.reverse).tail.reverse
theorem hullL_M (P : List Pt) : hullL P = hullM P := by
  unfold hullL hullM
  rw [mono_rev]
  congr 2
  cases mono (ngl P) <;> rfl
theorem mono_col (z : Pt) : ∀ (n : Nat) (Q : List Pt) (p : Pt), Q.length = n → (∀ a ∈ z :: (Q ++ [p]), dt z a p = 0) → (∀ a ∈ Q, ∀ b ∈ Q, dt z a b = 0) → mono (z :: (Q ++ [p])) = [p, z] := by
  intro n
  induction n with
  | zero =>
    intro Q p hl h h2
    have : Q = [] := List.length_eq_zero_iff.1 hl
    subst this
    rfl
  | succ n ih =>
    intro Q p hl h h2
    rcases List.eq_nil_or_concat Q with rfl | ⟨Q', q, rfl⟩
    · simp at hl
    · rw [List.concat_eq_append] at *
      have e : mono (z :: (Q' ++ [q])) = [q, z] := ih Q' q (by simpa using hl)
        (fun a ha => by
          rcases List.mem_cons.1 ha with rfl | ha
          · unfold dt; grind
          · exact h2 a ha q (by simp))
        (fun a ha b hb => h2 a (by simp [ha]) b (by simp [hb]))
      have e2 : z :: (Q' ++ [q] ++ [p]) = (z :: (Q' ++ [q])) ++ [p] := by simp
      rw [e2, mono_snoc, e]
      have hd := h q (by simp)
      unfold pop
      rw [if_pos (by omega)]
      rfl
theorem hull_list {S P : List Pt} (hS : Okp S) (hp : P.Pairwise lexLt) (hm : ∀ x, x ∈ P ↔ x ∈ S) (h2 : 2 ≤ P.length) : hullL P = hullP S := by
  have hPn : P ≠ [] := by intro e; rw [e] at h2; simp at h2
  have H : Hull S (hullM P) := (hullM_hull h2 hp).mono hm
  cases hc : colP S
  · rw [hullL_M]
    exact Hull.uniq (col_ncol hS hc) H (col_hull hS hc)
  · match P, h2, hPn with
    | z :: R, h2, _ =>
      rcases List.eq_nil_or_concat R with rfl | ⟨Q, p, rfl⟩
      · simp at h2
      · rw [List.concat_eq_append] at *
        have hp2 := List.pairwise_cons.1 hp
        have hp3 := List.pairwise_append.1 hp2.2
        have lz : isLow S z := ⟨(hm z).1 (by simp), fun r hr => by
          rcases List.mem_cons.1 ((hm r).2 hr) with rfl | h
          · exact lexLe_iff.2 (.inr rfl)
          · exact lexLe_iff.2 (.inl (hp2.1 r h))⟩
        have zp : lexLt z p := hp2.1 p (by simp)
        have hh : isHigh S p := ⟨(hm p).1 (by simp), fun r hr => by
          rcases List.mem_cons.1 ((hm r).2 hr) with rfl | h
          · exact lexLe_iff.2 (.inl zp)
          · rcases List.mem_append.1 h with h | h
            · exact lexLe_iff.2 (.inl (hp3.2.2 r h p (by simp)))
            · simp at h; subst h; exact lexLe_iff.2 (.inr rfl)⟩
        have el : lowP S = z := (lowP_low hS.h0).unique lz
        have eh : highP S = p := by
          have a := (highP_high hS.h0)
          exact (hh.2 _ a.1).antisymm (a.2 _ hh.1)
        have hne : z ≠ p := fun e => by rw [e] at zp; exact zp.irrefl
        have hd := (colP_dt hS.h0 hS.hin).1 hc
        rw [el, eh] at hd
        have hall : ∀ a ∈ z :: (Q ++ [p]), ∀ b ∈ z :: (Q ++ [p]), ∀ c ∈ z :: (Q ++ [p]), dt a b c = 0 := fun a ha b hb c hc' =>
          col_line hne (hd a ((hm a).1 ha)) (hd b ((hm b).1 hb)) (hd c ((hm c).1 hc'))
        have m1 : mono (z :: (Q ++ [p])) = [p, z] := mono_col z _ Q p rfl (fun a ha => hall z (by simp) a ha p (by simp)) (fun a ha b hb => hall z (by simp) a (by simp [ha]) b (by simp [hb]))
        have m2 : mono (z :: (Q ++ [p])).reverse = [z, p] := by
          have : (z :: (Q ++ [p])).reverse = p :: (Q.reverse ++ [z]) := by simp
          rw [this]
          refine mono_col p _ Q.reverse z rfl (fun a ha => hall p (by simp) a ?_ z (by simp)) (fun a ha b hb => hall p (by simp) a ?_ b ?_)
          · simp at ha ⊢; rcases ha with h | h | h <;> simp [h]
          · simp at ha ⊢; simp [ha]
          · simp at hb ⊢; simp [hb]
        rw [hullP_good hS, hc, if_pos rfl, el, eh, if_neg hne]
        unfold hullL
        rw [m1, m2]
        rfl
theorem hull_single {S : List Pt} {p : Pt} (hS : Okp S) (hm : ∀ x, x ∈ [p] ↔ x ∈ S) : [p] = hullP S := by
  have el : lowP S = p := by have := (hm _).2 (lowP_low hS.h0).1; simpa using this
  have eh : highP S = p := by have := (hm _).2 (highP_high hS.h0).1; simpa using this
  have hc : colP S = true := (colP_dt hS.h0 hS.hin).2 fun q _ => by rw [el, eh]; exact dt_same _ _
  rw [hullP_good hS, hc, if_pos rfl, el, eh, if_pos rfl]

/-- Duplicates side by side, left out. -/
def dd : List Pt → List Pt
  | [] => []
  | [a] => [a]
  | a :: b :: r => if a = b then dd (b :: r) else a :: dd (b :: r)
theorem dd_mem {x : Pt} : ∀ {l : List Pt}, x ∈ dd l ↔ x ∈ l
  | [] => Iff.rfl
  | [a] => Iff.rfl
  | a :: b :: r => by
    have ih := dd_mem (x := x) (l := b :: r)
    unfold dd
    split
    · rename_i h; subst h; rw [ih]; simp
    · rw [List.mem_cons, ih, List.mem_cons (a := x) (b := a)]
theorem dd_pos {l : List Pt} (h : 0 < l.length) : 0 < (dd l).length := by
  cases l with
  | nil => simp at h
  | cons a r => exact List.length_pos_of_mem (dd_mem.2 (List.mem_cons_self (a := a) (l := r)))
theorem dd_sorted : ∀ {l : List Pt}, l.Pairwise lexLe → (dd l).Pairwise lexLt
  | [], _ => List.Pairwise.nil
  | [a], _ => by simp [dd]
  | a :: b :: r, h => by
    have hc := List.pairwise_cons.1 h
    have ih := dd_sorted hc.2
    unfold dd
    split
    · exact ih
    · rename_i hab
      refine List.pairwise_cons.2 ⟨fun x hx => ?_, ih⟩
      have hx' := dd_mem.1 hx
      have hab' : lexLt a b := by
        rcases lexLe_iff.1 (hc.1 b (by simp)) with h | h
        · exact h
        · exact absurd h hab
      rcases List.mem_cons.1 hx' with rfl | hr
      · exact hab'
      · rcases lexLe_iff.1 ((List.pairwise_cons.1 hc.2).1 x hr) with h | h
        · exact hab'.trans h
        · rw [← h]; exact hab'
/-- One element more at the end. -/
theorem dd_snoc : ∀ (l : List Pt) (y x : Pt), l.getLast? = some y → dd (l ++ [x]) = if y = x then dd l else dd l ++ [x]
  | [], y, x, h => by simp at h
  | [a], y, x, h => by
    simp at h; subst h
    show dd [a, x] = _
    unfold dd
    split
    · rename_i e; subst e; rfl
    · rfl
  | a :: b :: r, y, x, h => by
    have ih := dd_snoc (b :: r) y x (by simpa using h)
    simp only [List.cons_append] at ih ⊢
    unfold dd
    rw [ih]
    split
    · rfl
    · split
      · rfl
      · rfl
theorem dd_last {l : List Pt} : (dd l).getLast? = l.getLast? := by
  match l with
  | [] => rfl
  | [a] => rfl
  | a :: b :: r =>
    have ih := dd_last (l := b :: r)
    unfold dd
    split
    · rw [ih]; simp
    · have h0 : dd (b :: r) ≠ [] := fun e => by have := dd_pos (l := b :: r) (by simp); rw [e] at this; simp at this
      rw [List.getLast?_cons_of_ne_nil h0, ih]; simp
theorem dd_len : ∀ (l : List Pt), (dd l).length ≤ l.length
  | [] => Nat.le_refl _
  | [a] => Nat.le_refl _
  | a :: b :: r => by
    have ih := dd_len (b :: r)
    unfold dd
    split
    · simp at ih ⊢; omega
    · simp at ih ⊢; omega

end Go.Proofs.Ytncijpaooiopfaa
