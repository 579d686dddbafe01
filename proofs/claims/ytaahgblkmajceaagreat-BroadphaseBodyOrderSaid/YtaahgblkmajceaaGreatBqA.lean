/- Chapter 22, mathematics: the program's search is the reference's. -/
import Derived.Test.YtaahgblkmajceaaGreatBpA
import Derived.Test.YtaahgblkmajceaaGreatSg1
set_option linter.unusedVariables false
set_option linter.unusedSimpArgs false
namespace Go.Proofs.YtaahgblkmajceaaGreat
open Go.RowKit Fx

/-! ### The first body with each ID -/
def hasB (o : List Bdy) (i : Int) : Bool := o.any fun x => x.i == i
def stepB (o : List Bdy) (b : Bdy) : List Bdy := if hasB o b.i then o else o ++ [b]
def fsB (l : List Bdy) : List Bdy := l.foldl stepB []
theorem fsB_snoc (l : List Bdy) (b : Bdy) : fsB (l ++ [b]) = stepB (fsB l) b := by simp [fsB]
theorem fsB_take {l : List Bdy} {k : Nat} (h : k < l.length) : fsB (l.take (k + 1)) = stepB (fsB (l.take k)) l[k] := by rw [← fsB_snoc, List.take_append_getElem h]
theorem hasB_iff {o : List Bdy} {i : Int} : hasB o i = true ↔ ∃ x ∈ o, x.i = i := by simp [hasB]
theorem hasB_not {o : List Bdy} {i : Int} : hasB o i = false ↔ ∀ x ∈ o, x.i ≠ i := by
  constructor
  · intro h x hx e
    have : hasB o i = true := hasB_iff.2 ⟨x, hx, e⟩
    rw [h] at this; cases this
  · intro h
    cases hh : hasB o i
    · rfl
    · obtain ⟨x, hx, e⟩ := hasB_iff.1 hh; exact (h x hx e).elim
theorem fsB_len (l : List Bdy) : ∀ k, k ≤ l.length → (fsB (l.take k)).length ≤ k
  | 0, _ => by simp [fsB]
  | k + 1, h => by
    have := fsB_len l k (by omega)
    rw [fsB_take (by omega)]; unfold stepB; split <;> simp <;> omega
/-- What lies in it: the bodies that no earlier one has the ID of. -/
theorem fsB_mem (l : List Bdy) : ∀ k, k ≤ l.length → (∀ x, x ∈ fsB (l.take k) ↔ ∃ i, i < k ∧ l[i]? = some x ∧ fstB l i = true) ∧ (∀ i (h : i < l.length), i < k → hasB (fsB (l.take k)) l[i].i = true)
  | 0, _ => ⟨fun x => by simp [fsB], fun i _ h => by omega⟩
  | k + 1, h => by
    obtain ⟨h1, h2⟩ := fsB_mem l k (by omega)
    have hk : k < l.length := by omega
    have hf : fstB l k = true ↔ hasB (fsB (l.take k)) l[k].i = false := by
      have e : fstB l k = (l.take k).all fun x => !(x.i == l[k].i) := by unfold fstB; rw [List.getElem?_eq_getElem hk]
      rw [e, List.all_eq_true]
      constructor
      · intro h3
        rw [hasB_not]
        intro x hx e2
        obtain ⟨i, hi, he, _⟩ := (h1 x).1 hx
        have h4 := h3 x (by
          obtain ⟨hil, rfl⟩ := List.getElem?_eq_some_iff.1 he
          exact List.mem_take_iff_getElem.2 ⟨i, by omega, rfl⟩)
        rw [e2] at h4; simp at h4
      · intro h3 x hx
        obtain ⟨i, hi, rfl⟩ := List.mem_take_iff_getElem.1 hx
        have h4 := h2 i (by omega) (by omega)
        obtain ⟨y, hy, e2⟩ := hasB_iff.1 h4
        have h5 := hasB_not.1 h3 y hy
        rw [e2] at h5
        simp; exact h5
    rw [fsB_take hk]
    cases hb : hasB (fsB (l.take k)) l[k].i with
    | true =>
      have e : stepB (fsB (l.take k)) l[k] = fsB (l.take k) := by unfold stepB; rw [if_pos hb]
      rw [e]
      refine ⟨fun x => (h1 x).trans ⟨fun ⟨i, a, b⟩ => ⟨i, by omega, b⟩, fun ⟨i, a, b, c⟩ => ⟨i, ?_, b, c⟩⟩, fun i hi hik => ?_⟩
      · rcases Nat.lt_or_eq_of_le (Nat.le_of_lt_succ a) with h3 | rfl
        · exact h3
        · rw [hf, hb] at c; cases c
      · rcases Nat.lt_or_eq_of_le (Nat.le_of_lt_succ hik) with h3 | rfl
        · exact h2 i hi h3
        · exact hb
    | false =>
      have e : stepB (fsB (l.take k)) l[k] = fsB (l.take k) ++ [l[k]] := by unfold stepB; rw [if_neg (by rw [hb]; simp)]
      rw [e]
      refine ⟨fun x => ?_, fun i hi hik => ?_⟩
      · rw [List.mem_append, h1 x, List.mem_singleton]
        constructor
        · rintro (⟨i, a, b⟩ | rfl)
          · exact ⟨i, by omega, b⟩
          · exact ⟨k, by omega, List.getElem?_eq_getElem hk, hf.2 hb⟩
        · rintro ⟨i, a, b, c⟩
          rcases Nat.lt_or_eq_of_le (Nat.le_of_lt_succ a) with h3 | rfl
          · exact Or.inl ⟨i, h3, b, c⟩
          · rw [List.getElem?_eq_getElem hk] at b; cases b; exact Or.inr rfl
      · rcases Nat.lt_or_eq_of_le (Nat.le_of_lt_succ hik) with h3 | rfl
        · have := h2 i hi h3
          unfold hasB at *; rw [List.any_append, this]; rfl
        · unfold hasB; rw [List.any_append]; simp
theorem fsB_dst (l : List Bdy) : ∀ k, k ≤ l.length → (fsB (l.take k)).Pairwise fun a b => a.i ≠ b.i
  | 0, _ => by simp [fsB]
  | k + 1, h => by
    have h1 := fsB_dst l k (by omega)
    rw [fsB_take (by omega)]
    unfold stepB; split
    · exact h1
    · rename_i hb
      rw [List.pairwise_append]
      refine ⟨h1, by simp, fun x hx y hy => ?_⟩
      simp at hy; subst hy
      exact hasB_not.1 (by simpa using hb) x hx
/-- The first bodies in the order of their IDs. -/
def ascB (l : List Bdy) : List Bdy := (fsB l).mergeSort fun a b => decide (a.i ≤ b.i)
theorem ascB_perm (l : List Bdy) : (ascB l).Perm (fsB l) := List.mergeSort_perm _ _
theorem ascB_len (l : List Bdy) : (ascB l).length ≤ l.length := by
  rw [(ascB_perm l).length_eq]
  have := fsB_len l l.length (Nat.le_refl _); rwa [List.take_length] at this
theorem ascB_srt (l : List Bdy) : (ascB l).Pairwise fun a b => a.i < b.i := by
  have h1 : (ascB l).Pairwise fun a b => decide (a.i ≤ b.i) = true := List.pairwise_mergeSort (fun a b c h1 h2 => by simp only [decide_eq_true_eq] at *; omega) (fun a b => by simp only [Bool.or_eq_true, decide_eq_true_eq]; omega) _
  have h2 : (ascB l).Pairwise fun a b => a.i ≠ b.i := by
    have := fsB_dst l l.length (Nat.le_refl _)
    rw [List.take_length] at this
    exact (ascB_perm l).symm.pairwise this (fun h => h.symm)
  exact (h1.and h2).imp fun ⟨a, b⟩ => by simp only [decide_eq_true_eq] at a; omega
theorem ascB_mem {l : List Bdy} {x : Bdy} : x ∈ ascB l ↔ ∃ i, l[i]? = some x ∧ fstB l i = true := by
  rw [(ascB_perm l).mem_iff]
  have := (fsB_mem l l.length (Nat.le_refl _)).1 x
  rw [List.take_length] at this
  rw [this]
  exact ⟨fun ⟨i, _, b⟩ => ⟨i, b⟩, fun ⟨i, a, b⟩ => ⟨i, (List.getElem?_eq_some_iff.1 a).1, a, b⟩⟩
theorem ascB_sub {l : List Bdy} {x : Bdy} (h : x ∈ ascB l) : x ∈ l := by
  obtain ⟨i, e, _⟩ := ascB_mem.1 h
  exact List.mem_of_getElem? e

/-! ### The proxies of bodies -/
abbrev Pxy := Bdy × Nat
def pbx (x : Pxy) : Bx := match x.1.fs[x.2]? with
  | some f => fbx x.1 f
  | none => Bx.zero
theorem pbx_at {b : Bdy} {p : Nat} (h : p < b.fs.length) : pbx (b, p) = fbx b b.fs[p] := by unfold pbx; rw [List.getElem?_eq_getElem h]
def pxB (b : Bdy) (n : Nat) : List Pxy := (List.range n).map fun p => (b, p)
theorem pxB_succ (b : Bdy) (n : Nat) : pxB b (n + 1) = pxB b n ++ [(b, n)] := by simp [pxB, List.range_succ]
theorem pxB_len (b : Bdy) (n : Nat) : (pxB b n).length = n := by simp [pxB]
def pxs (S : List Bdy) : List Pxy := S.flatMap fun b => pxB b b.fs.length
theorem pxs_snoc (S : List Bdy) (b : Bdy) : pxs (S ++ [b]) = pxs S ++ pxB b b.fs.length := by simp [pxs]
theorem pxs_take {S : List Bdy} {k : Nat} (h : k < S.length) : pxs (S.take (k + 1)) = pxs (S.take k) ++ pxB S[k] S[k].fs.length := by rw [← pxs_snoc, List.take_append_getElem h]
theorem pxs_mem {S : List Bdy} {x : Pxy} : x ∈ pxs S ↔ x.1 ∈ S ∧ x.2 < x.1.fs.length := by
  unfold pxs pxB
  simp only [List.mem_flatMap, List.mem_map, List.mem_range]
  constructor
  · rintro ⟨b, hb, p, hp, rfl⟩; exact ⟨hb, hp⟩
  · rintro ⟨hb, hp⟩; exact ⟨x.1, hb, x.2, hp, rfl⟩
theorem pxs_len (S : List Bdy) (h : ∀ b ∈ S, b.fs.length ≤ 8) : (pxs S).length ≤ S.length * 8 := by
  induction S with
  | nil => simp [pxs]
  | cons b r ih =>
    have h1 := ih fun x hx => h x (by simp [hx])
    have h2 := h b (by simp)
    have e : pxs (b :: r) = pxB b b.fs.length ++ pxs r := by simp [pxs]
    rw [e, List.length_append, pxB_len, List.length_cons]; omega
def ltX (a b : Pxy) : Prop := a.1.i < b.1.i ∨ a.1.i = b.1.i ∧ a.2 < b.2
theorem pxs_srt {S : List Bdy} (h : S.Pairwise fun a b => a.i < b.i) : (pxs S).Pairwise ltX := by
  unfold pxs
  rw [List.pairwise_flatMap]
  refine ⟨fun b _ => ?_, h.imp fun {a b} hlt x hx y hy => ?_⟩
  · unfold pxB
    rw [List.pairwise_map]
    exact List.pairwise_lt_range.imp fun {p q} h => Or.inr ⟨rfl, h⟩
  · unfold pxB at hx hy
    simp only [List.mem_map, List.mem_range] at hx hy
    obtain ⟨p, _, rfl⟩ := hx
    obtain ⟨q, _, rfl⟩ := hy
    exact Or.inl hlt
/-- Their boxes with their indices. -/
def ens (P : List Pxy) : Bxs := P.mapIdx fun i x => ((i : Int), pbx x)
theorem ens_len (P : List Pxy) : (ens P).length = P.length := by simp [ens]
theorem ens_snoc (P : List Pxy) (x : Pxy) : ens (P ++ [x]) = ens P ++ [((P.length : Int), pbx x)] := by simp [ens, List.mapIdx_append]
theorem ens_take {P : List Pxy} {k : Nat} (h : k < P.length) : ens (P.take (k + 1)) = ens (P.take k) ++ [((k : Int), pbx P[k])] := by
  rw [← List.take_append_getElem h, ens_snoc, List.length_take, Nat.min_eq_left (by omega)]
theorem ens_mem {P : List Pxy} {e : Int × Bx} : e ∈ ens P ↔ ∃ (i : Nat) (x : Pxy), P[i]? = some x ∧ e = ((i : Int), pbx x) := by
  unfold ens
  rw [List.mem_mapIdx]
  constructor
  · rintro ⟨i, h, rfl⟩; exact ⟨i, _, List.getElem?_eq_getElem h, rfl⟩
  · rintro ⟨i, x, h, rfl⟩
    obtain ⟨h1, rfl⟩ := List.getElem?_eq_some_iff.1 h
    exact ⟨i, h1, rfl⟩
theorem ens_dst (P : List Pxy) : Dst (ens P) := by
  unfold Dst ens
  rw [List.pairwise_iff_getElem]
  intro i j hi hj hlt
  simp only [List.getElem_mapIdx]
  omega
theorem ovl_vals {x y : Bx} (h : Bx.ovl x y = true) : x.val = true ∧ y.val = true := by
  unfold Bx.ovl at h
  simp only [Bool.and_eq_true] at h
  exact ⟨h.1.1.1.1.1, h.1.1.1.1.2⟩
theorem prE_mem {P : List Pxy} {x : Int × Int} : x ∈ prP (cnt (ens P)) ↔ ∃ (i j : Nat) (a b : Pxy), P[i]? = some a ∧ P[j]? = some b ∧ i < j ∧ Bx.ovl (pbx a) (pbx b) = true ∧ x = ((i : Int), (j : Int)) := by
  rw [prP_mem (cnt_dst _), cnt_filter (ens_dst P)]
  unfold InP
  simp only [List.mem_filter, ens_mem]
  constructor
  · rintro ⟨e, ⟨⟨i, a, h1, rfl⟩, _⟩, f, ⟨⟨j, b, h2, rfl⟩, _⟩, hlt, ho, rfl⟩
    dsimp only at hlt ho ⊢
    exact ⟨i, j, a, b, h1, h2, by omega, ho, rfl⟩
  · rintro ⟨i, j, a, b, h1, h2, hlt, ho, rfl⟩
    exact ⟨_, ⟨⟨i, a, h1, rfl⟩, (ovl_vals ho).1⟩, _, ⟨⟨j, b, h2, rfl⟩, (ovl_vals ho).2⟩, by dsimp only; omega, ho, rfl⟩

/-! ### The keys -/
def shX (a b : Pxy) : Bool := match a.1.fs[a.2]?, b.1.fs[b.2]? with
  | some f, some g => shc f.grp f.cat f.msk g.grp g.cat g.msk
  | _, _ => false
def mayC (js : List Jnt) (a b : Pxy) : Bool := (a.1.i != b.1.i) && (a.1.k == 3 || b.1.k == 3) && shX a b && !cnj js a.1.i b.1.i
def gkX (js : List Jnt) (a b : Pxy) : List Ky := if mayC js a b then [kyOf a.1 b.1 a.2 b.2] else []
def gk (P : List Pxy) (js : List Jnt) (x : Int × Int) : List Ky := match P[x.1.toNat]?, P[x.2.toNat]? with
  | some a, some b => gkX js a b
  | _, _ => []
theorem gk_mem {P : List Pxy} {js : List Jnt} {x : Int × Int} {k : Ky} : k ∈ gk P js x ↔ ∃ a b, P[x.1.toNat]? = some a ∧ P[x.2.toNat]? = some b ∧ mayC js a b = true ∧ k = kyOf a.1 b.1 a.2 b.2 := by
  unfold gk
  rcases ha : P[x.1.toNat]? with _ | a
  · simp
  · rcases hb : P[x.2.toNat]? with _ | b
    · simp
    · simp only [gkX]
      split
      · rename_i h
        rw [List.mem_singleton]
        exact ⟨fun e => ⟨a, b, rfl, rfl, h, e⟩, fun ⟨a', b', e1, e2, _, e⟩ => by cases e1; cases e2; exact e⟩
      · rename_i h
        exact ⟨fun e => by simp at e, fun ⟨a', b', e1, e2, h2, e⟩ => by cases e1; cases e2; exact (h h2).elim⟩
/-- What the program lists: a key for each overlapping pair that may collide. -/
def rsL (P : List Pxy) (js : List Jnt) (l : List (Int × Int)) : List Ky := l.flatMap (gk P js)
theorem rsL_take {P : List Pxy} {js : List Jnt} {l : List (Int × Int)} {k : Nat} (h : k < l.length) : rsL P js (l.take (k + 1)) = rsL P js (l.take k) ++ gk P js l[k] := by
  unfold rsL
  rw [← List.take_append_getElem h, List.flatMap_append]; simp
theorem ltX_at {P : List Pxy} (h : P.Pairwise ltX) {i j : Nat} {a b : Pxy} (h1 : P[i]? = some a) (h2 : P[j]? = some b) (hlt : i < j) : ltX a b := by
  obtain ⟨h3, rfl⟩ := List.getElem?_eq_some_iff.1 h1
  obtain ⟨h4, rfl⟩ := List.getElem?_eq_some_iff.1 h2
  exact List.pairwise_iff_getElem.1 h i j h3 h4 hlt
theorem ltX_ix {P : List Pxy} (h : P.Pairwise ltX) {i j : Nat} {a b : Pxy} (h1 : P[i]? = some a) (h2 : P[j]? = some b) (hlt : ltX a b) : i < j := by
  rcases Nat.lt_trichotomy i j with h3 | rfl | h3
  · exact h3
  · rw [h1] at h2; cases h2; unfold ltX at hlt; omega
  · have := ltX_at h h2 h1 h3
    unfold ltX at *; omega
theorem rs_srt {P : List Pxy} (hP : P.Pairwise ltX) (js : List Jnt) : SrtK (rsL P js (prP (cnt (ens P)))) := by
  unfold rsL SrtK
  rw [List.pairwise_flatMap]
  refine ⟨fun x _ => ?_, List.Pairwise.imp_of_mem (fun {x y} hx hy hlt k hk k' hk' => ?_) (prP_srt (cnt_dst _))⟩
  · unfold gk
    split
    · unfold gkX; split <;> simp
    · simp
  · obtain ⟨i, j, a, b, h1, h2, hij, ho, rfl⟩ := prE_mem.1 hx
    obtain ⟨i', j', a', b', h1', h2', hij', ho', rfl⟩ := prE_mem.1 hy
    obtain ⟨_, _, e1, e2, _, rfl⟩ := gk_mem.1 hk
    obtain ⟨_, _, e3, e4, _, rfl⟩ := gk_mem.1 hk'
    simp only [Int.toNat_natCast] at e1 e2 e3 e4
    rw [h1] at e1; rw [h2] at e2; rw [h1'] at e3; rw [h2'] at e4
    cases e1; cases e2; cases e3; cases e4
    unfold ltP at hlt
    dsimp only at hlt
    rcases Nat.lt_or_ge i i' with h3 | h3
    · have := ltX_at hP h1 h1' h3
      unfold ltX at this
      unfold ltK kyOf
      dsimp only
      omega
    · have h4 : i = i' := by omega
      subst h4
      rw [h1] at h1'; cases h1'
      have := ltX_at hP h2 h2' (by omega)
      unfold ltX at this
      unfold ltK kyOf
      dsimp only
      omega
/-- The program's search finds what the reference's does. -/
theorem rs_fp (l : List Bdy) (js : List Jnt) : rsL (pxs (ascB l)) js (prP (cnt (ens (pxs (ascB l))))) = fpL l js := by
  have hP := pxs_srt (ascB_srt l)
  refine fpL_eq (rs_srt hP js) fun k => ?_
  unfold rsL InK
  rw [List.mem_flatMap]
  constructor
  · rintro ⟨x, hx, hk⟩
    obtain ⟨i, j, a, b, h1, h2, hij, ho, rfl⟩ := prE_mem.1 hx
    obtain ⟨_, _, e1, e2, hm, rfl⟩ := gk_mem.1 hk
    simp only [Int.toNat_natCast] at e1 e2
    rw [h1] at e1; rw [h2] at e2
    cases e1; cases e2
    obtain ⟨ma, pa⟩ := pxs_mem.1 (List.mem_of_getElem? h1)
    obtain ⟨mb, pb⟩ := pxs_mem.1 (List.mem_of_getElem? h2)
    obtain ⟨ia, ea, fa⟩ := ascB_mem.1 ma
    obtain ⟨ib, eb, fb⟩ := ascB_mem.1 mb
    have hlt := ltX_at hP h1 h2 hij
    obtain ⟨a, p⟩ := a
    obtain ⟨b, q⟩ := b
    dsimp only at ma mb pa pb ea eb
    unfold mayC at hm
    simp only [Bool.and_eq_true, bne_iff_ne] at hm
    obtain ⟨⟨⟨c1, c2⟩, c3⟩, c4⟩ := hm
    rw [pbx_at pa, pbx_at pb] at ho
    unfold shX at c3
    dsimp only at c3
    rw [List.getElem?_eq_getElem pa, List.getElem?_eq_getElem pb] at c3
    refine ⟨ia, ib, a, b, p, q, ea, eb, ?_, pa, pb, ?_, rfl⟩
    · rw [okAB_at ea eb, fa, fb, c2, c4]
      unfold ltX at hlt
      dsimp only at hlt
      simp; omega
    · rw [hitF_at pa pb, ho]; dsimp only at c3; rw [c3]; rfl
  · rintro ⟨ia, ib, a, b, p, q, ea, eb, ho, pa, pb, hh, rfl⟩
    rw [okAB_at ea eb] at ho
    simp only [Bool.and_eq_true, decide_eq_true_eq] at ho
    obtain ⟨⟨⟨⟨c1, fa⟩, fb⟩, c2⟩, c4⟩ := ho
    rw [hitF_at pa pb, Bool.and_eq_true] at hh
    have ma : (a, p) ∈ pxs (ascB l) := pxs_mem.2 ⟨ascB_mem.2 ⟨ia, ea, fa⟩, pa⟩
    have mb : (b, q) ∈ pxs (ascB l) := pxs_mem.2 ⟨ascB_mem.2 ⟨ib, eb, fb⟩, pb⟩
    obtain ⟨i, h1⟩ := List.mem_iff_getElem?.1 ma
    obtain ⟨j, h2⟩ := List.mem_iff_getElem?.1 mb
    have hij := ltX_ix hP h1 h2 (Or.inl c1)
    refine ⟨((i : Int), (j : Int)), prE_mem.2 ⟨i, j, _, _, h1, h2, hij, by rw [pbx_at pa, pbx_at pb]; exact hh.2, rfl⟩, gk_mem.2 ⟨(a, p), (b, q), by simpa using h1, by simpa using h2, ?_, rfl⟩⟩
    unfold mayC shX
    dsimp only
    rw [List.getElem?_eq_getElem pa, List.getElem?_eq_getElem pb, c2, c4]
    dsimp only
    rw [hh.1]
    simp; omega

end Go.Proofs.YtaahgblkmajceaaGreat
