import Derived.Test.YtdldlcibjjccpaaBxF
set_option linter.unusedVariables false
set_option linter.unusedSimpArgs false
namespace Go.Proofs.Ytdldlcibjjccpaa
open Go.RowKit Fx

theorem wpList_app10 {P : Program} {w : World} {ops : Array Oper} {rest : List Oper} {o : Oper} {a : Act} {Q : Exit → Act → World → Prop} (hg : o.guard = none) (s x : Operand) (t : TypeId)
    (ho : o.op = .call { callee := .builtin .append, args := #[s, x], argTypes := #[t, t] })
    (B : Nat) (e : TypeId) (i : TypeInfo) (z : Value) (bytes : Nat) (ht : P.underlying t = some (.slice e)) (hi : P.info? e = some i) (hz : i.zero = some z) (hsize : i.size = 1) (hby : i.bytes = bytes) (hzs : z.cells.size = 1)
    (v : Value) (n : Nat) (xs : List Value) (hs : a.eval s = v) (hown : w.ownsRow B e 1 v n xs) (b : Nat) (y1 : Value) (te : TypeId) (hx : a.eval x = .slice (some ⟨b, 0, none⟩) 1 1) (hy : blk w b #[y1] te) (h1 : y1.oneCell' = true)
    (h63 : n + 1 ≤ maxLen) (hbytes : (n + 1) * bytes ≤ 140737488355328) (hB : B ≤ w.heap.size)
    (h : ∀ v' w', w'.ownsRow B e 1 v' (n + 1) (xs ++ [y1]) → Below B w w' → w.grownBy w' v.ownBlock → (v'.ownBlock = v.ownBlock ∨ v'.ownBlock = some w.heap.size) → wpList P ops Q rest (a.put o.dst v') w') : wpList P ops Q (o :: rest) a w := by
  refine wpList_append_own_at w hg s x t ho B e i z 1 bytes ht hi hz hsize hby hzs (by decide) v n xs hs hown ⟨b, 0, none⟩ 1 1 [y1] hx rfl (fun j u hj => ?_) (fun u hu => ?_) h63 hbytes hB (fun v' w' h2 h3 _ h5 => h v' w' h2 ?_ h3 h5)
  · match j, hj with
    | 0, hj => simp at hj; subst hj; simpa [Addr.add] using blk_cell hy 0
  · simp at hu; subst hu; assumption
  · refine ⟨h3.os, h3.tape, h3.output, h3.size, fun k hk => h3.block k (by omega) fun hk' => ?_⟩
    obtain ⟨_, ⟨rfl, _⟩ | ⟨g, cap, cur, rfl, hBg, _⟩⟩ := hown
    · simp [Value.ownBlock] at hk'
    · simp [Value.ownBlock] at hk'; omega
theorem But.grown_any {w w' : World} {row : Option Nat} (h : w.grownBy w' row) : But (fun k => row = some k) w w' := ⟨h.os, h.tape, h.output, h.size, fun k hk hn => h.block k hk (fun e => hn e.symm)⟩
theorem owns_grown {w w' : World} {row : Option Nat} {B k n : Nat} {e : TypeId} {v : Value} {xs : List Value} (h : w.ownsRow B e k v n xs) (hg : w.grownBy w' row) (hne : row = none ∨ v.ownBlock ≠ row) : w'.ownsRow B e k v n xs :=
  owns_but h (But.grown_any hg) fun k hk hh => by
    rcases hne with h1 | h1
    · rw [h1] at hh; cases hh
    · exact h1 (hk.trans hh.symm)

/-- The boxes of the list at the ids, in the ids' order. -/
def pick (L : Bxs) (ids : List Int) : Bxs := ids.filterMap fun i => (look L i).map fun x => (i, x)
theorem pick_app (L : Bxs) (a b : List Int) : pick L (a ++ b) = pick L a ++ pick L b := by simp [pick]
theorem pick_none {L : Bxs} {i : Int} (h : look L i = none) : pick L [i] = [] := by simp [pick, h]
theorem pick_some {L : Bxs} {i : Int} {x : Bx} (h : look L i = some x) : pick L [i] = [(i, x)] := by simp [pick, h]
theorem mem_pick {L : Bxs} (h : Srt L) {ids : List Int} {e : Int × Bx} : e ∈ pick L ids ↔ e.1 ∈ ids ∧ e ∈ L := by
  obtain ⟨i, x⟩ := e
  simp only [pick, List.mem_filterMap, Option.map_eq_some_iff]
  constructor
  · rintro ⟨j, hj, y, hy, he⟩
    cases he
    exact ⟨hj, (look_some h).1 hy⟩
  · rintro ⟨h1, h2⟩
    exact ⟨i, h1, x, (look_some h).2 h2, rfl⟩
theorem pick_srt (L : Bxs) : ∀ {ids : List Int}, ids.Pairwise (· < ·) → Srt (pick L ids)
  | [], _ => List.Pairwise.nil
  | i :: t, h => by
    obtain ⟨h1, h2⟩ := List.pairwise_cons.1 h
    have ih := pick_srt L h2
    rw [show i :: t = [i] ++ t from rfl, pick_app]
    rcases hl : look L i with _ | x
    · rw [pick_none hl]; exact ih
    · rw [pick_some hl]
      refine List.pairwise_cons.2 ⟨fun e he => ?_, ih⟩
      have he : e ∈ pick L t := he
      simp only [pick, List.mem_filterMap, Option.map_eq_some_iff] at he
      obtain ⟨j, hj, y, _, rfl⟩ := he
      exact h1 j hj
theorem srt_eq {L L' : Bxs} (s : Srt L) (s' : Srt L') (h : ∀ e, e ∈ L ↔ e ∈ L') : L = L' := by
  have nd : ∀ {L : Bxs}, Srt L → L.Nodup := fun h => by
    refine List.Pairwise.imp ?_ h
    intro a b hab e; subst e; omega
  exact srt_ext s s' ((List.perm_ext_iff_of_nodup (nd s) (nd s')).2 h)
theorem pick_all {L : Bxs} (h : Srt L) {ids : List Int} (hi : ids.Pairwise (· < ·)) (hm : ∀ e ∈ L, e.1 ∈ ids) : pick L ids = L :=
  srt_eq (pick_srt L hi) h fun e => by rw [mem_pick h]; exact ⟨fun h => h.2, fun h => ⟨hm e h, h⟩⟩
theorem take_snoc {ids : List Int} {k : Nat} (h : k < ids.length) : ids.take (k + 1) = ids.take k ++ [ids[k]] := by simp
/-- The pairs found when the outer loop stands at k, the inner one at m. -/
def prK (L : Bxs) (ids : List Int) (k : Nat) : List (Int × Int) := (pick L (ids.take k)).flatMap (prs L)
def prI (L : Bxs) (ids : List Int) (k m : Nat) (i : Int) (x : Bx) : List (Int × Int) := ((pick L ((ids.take m).drop (k + 1))).filter fun e => Bx.ovl x e.2).map fun e => (i, e.1)
theorem drop_snoc {ids : List Int} {k m : Nat} (h : m < ids.length) (hk : k + 1 ≤ m) : (ids.take (m + 1)).drop (k + 1) = (ids.take m).drop (k + 1) ++ [ids[m]] := by
  rw [take_snoc h, List.drop_append_of_le_length (by simp; omega)]
theorem prI_no {L : Bxs} {ids : List Int} {k m : Nat} {i : Int} {x : Bx} (h : m < ids.length) (hk : k + 1 ≤ m) (hl : look L ids[m] = none ∨ ∃ y, look L ids[m] = some y ∧ Bx.ovl x y = false) : prI L ids k (m + 1) i x = prI L ids k m i x := by
  unfold prI
  rw [drop_snoc h hk, pick_app]
  rcases hl with hl | ⟨y, hl, ho⟩
  · rw [pick_none hl, List.append_nil]
  · rw [pick_some hl]; simp [ho]
theorem prI_yes {L : Bxs} {ids : List Int} {k m : Nat} {i : Int} {x y : Bx} (h : m < ids.length) (hk : k + 1 ≤ m) (hl : look L ids[m] = some y) (ho : Bx.ovl x y = true) : prI L ids k (m + 1) i x = prI L ids k m i x ++ [(i, ids[m])] := by
  unfold prI
  rw [drop_snoc h hk, pick_app, pick_some hl]; simp [ho]
theorem ovl_comm20 (x y : Bx) : Bx.ovl x y = Bx.ovl y x := by
  rw [Bool.eq_iff_iff]
  simp only [Bx.ovl, Bool.and_eq_true, decide_eq_true_eq]
  constructor <;> (intro h; simp_all)
theorem prI_all {L : Bxs} (h : Srt L) {ids : List Int} (hi : ids.Pairwise (· < ·)) (hm : ∀ e ∈ L, e.1 ∈ ids) {k : Nat} (hk : k < ids.length) (x : Bx) : prI L ids k ids.length ids[k] x = prs L (ids[k], x) := by
  have e1 : pick L ((ids.take ids.length).drop (k + 1)) = L.filter fun e => decide (ids[k] < e.1) := by
    rw [List.take_length]
    refine srt_eq (pick_srt L (hi.sublist (List.drop_sublist _ _))) (h.filter _) fun e => ?_
    rw [mem_pick h, List.mem_filter, decide_eq_true_eq]
    have hg := List.pairwise_iff_getElem.1 hi
    constructor
    · rintro ⟨h1, h2⟩
      refine ⟨h2, ?_⟩
      obtain ⟨j, hj, he⟩ := List.mem_iff_getElem.1 h1
      rw [List.getElem_drop] at he
      rw [← he]
      exact hg k (k + 1 + j) hk (by simp at hj; omega) (by omega)
    · rintro ⟨h1, h2⟩
      refine ⟨?_, h1⟩
      obtain ⟨j, hj, he⟩ := List.mem_iff_getElem.1 (hm e h1)
      have hjk : k < j := by
        rcases Nat.lt_trichotomy j k with hlt | heq | hgt
        · have := hg j k hj hk hlt; omega
        · subst heq; omega
        · exact hgt
      refine List.mem_iff_getElem.2 ⟨j - (k + 1), by simp; omega, ?_⟩
      rw [List.getElem_drop, ← he]; congr 1; omega
  unfold prI prs hitL
  rw [e1]
  simp only [List.filter_map, List.map_map, List.filter_filter]
  have e2 : (L.filter fun e => Bx.ovl x e.2 && decide (ids[k] < e.1)) = L.filter fun e => ((fun j => decide (ids[k] < j)) ∘ fun e : Int × Bx => e.1) e && Bx.ovl e.2 x := by
    congr 1; funext e; simp only [Function.comp]; rw [ovl_comm20, Bool.and_comm]
  rw [e2]; rfl

end Go.Proofs.Ytdldlcibjjccpaa
