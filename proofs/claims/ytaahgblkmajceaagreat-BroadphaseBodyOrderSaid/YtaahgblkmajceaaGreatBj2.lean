/- Chapter 22: a map from IDs to bodies.
Chapter 22: the IDs of a map of bodies, sorted. -/
import Derived.Test.YtaahgblkmajceaaGreatBqA
import Derived.Test.YtaahgblkmajceaaGreatBg1
import Derived.Test.YtaahgblkmajceaaGreatBg2

set_option linter.unusedVariables false
set_option linter.unusedSimpArgs false
namespace Go.Proofs.YtaahgblkmajceaaGreat
open Go.RowKit Fx Go.Maps

/-- A body as a value; the zero body where none stands. -/
def bdv : Option Bdy → Value
  | some b => .agg (bdc b).toArray
  | none => .agg #[.int .i64 0, .int .i64 0, .int .i64 0, .int .i64 0, .int .i64 0, .int .i64 0, .int .i64 0, .int .i64 0, .int .i64 0, .int .i64 0, .int .i64 0, .int .i64 0, .int .i64 0, .int .i64 0, .bool false, .bool false, .bool false, .bool false, .int .i64 0, .slice none 0 0]

def bdvs (l : List Bdy) : List Value := bdv none :: l.map fun b => bdv (some b)
theorem bdvs_mem {l : List Bdy} {o : Option Bdy} (h : ∀ x, o = some x → x ∈ l) : bdv o ∈ bdvs l := by
  cases o with
  | none => simp [bdvs]
  | some b => exact List.mem_cons_of_mem _ (List.mem_map.2 ⟨b, h b rfl, rfl⟩)

open Classical in
/-- Where a value stands in a list. -/
noncomputable def codeV (L : List Value) (v : Value) : DataW Unit := .lit (.int .u64 (if h : ∃ k, L[k]? = some v then (Classical.choose h : Nat) else 0))
open Classical in
noncomputable def bodE (L : List Value) (v : Value) : Option (DataW Unit × List MemPlace) := if v ∈ L then some (codeV L v, []) else none
theorem bodE_mk {L : List Value} {v : Value} (h : v ∈ L) : bodE L v = some (codeV L v, []) := by unfold bodE; rw [if_pos h]
theorem bodE_inv {L : List Value} {v u : Value} {ps : List MemPlace} (hu : u ∈ L) (h : bodE L v = some (codeV L u, ps)) : v = u := by
  unfold bodE at h
  split at h
  · rename_i hv
    have h1 : ∃ k, L[k]? = some v := List.mem_iff_getElem?.1 hv
    have h2 : ∃ k, L[k]? = some u := List.mem_iff_getElem?.1 hu
    have e : codeV L v = codeV L u := congrArg Prod.fst (Option.some.inj h)
    unfold codeV at e
    rw [dif_pos h1, dif_pos h2] at e
    have e2 : Classical.choose h1 = Classical.choose h2 := by
      have := e
      simp only [DataW.lit.injEq, Lit.int.injEq, true_and] at this
      omega
    have e3 := Classical.choose_spec h1
    have e4 := Classical.choose_spec h2
    rw [e2, e4] at e3
    exact (Option.some.inj e3).symm
  · cases h

/-- The map b holds at i what F says, bodies of l; it has n entries. -/
def MBod (l : List Bdy) (w : World) (b : Nat) (F : Int → Option Bdy) (n : Nat) : Prop := (∀ i x, F i = some x → x ∈ l) ∧ ∃ D : DataW Unit, w.ownsMap Tryz.prog 3 (bodE (bdvs l)) b n D ∧ size D = n ∧ (∀ i, D.atKey (.int .i64 i) (codeV (bdvs l) (bdv none)) = codeV (bdvs l) (bdv (F i))) ∧ (∀ i, has D (.int .i64 i) = (F i).isSome)

theorem umB : Tryz.prog.underlying 71 = some (.map 3 37) := by kernel_rfl
theorem zmB (w : World) : (zeroValue 37).run Tryz.prog w = .ok (bdv none) w := by kernel_rfl

theorem MBod.lt {l : List Bdy} {w : World} {b : Nat} {F : Int → Option Bdy} {n : Nat} (h : MBod l w b F n) : b < w.heap.size := by
  obtain ⟨_, D, h1, _⟩ := h; exact h1.lt
theorem MBod.kept {l : List Bdy} {w w' : World} {b : Nat} {F : Int → Option Bdy} {n : Nat} (h : MBod l w b F n) (hk : w'.heap[b]? = w.heap[b]?) : MBod l w' b F n := by
  obtain ⟨h0, D, h1, h2⟩ := h
  refine ⟨h0, D, ?_, h2⟩
  obtain ⟨es, clock, hb', Ft, hs', hD⟩ := h1
  exact ⟨es, clock, hk.trans hb', Ft, hs', hD⟩
theorem MBod.to {l : List Bdy} {w w' : World} {b : Nat} {F : Int → Option Bdy} {n : Nat} (h : MBod l w b F n) (hb : Below w.heap.size w w') : MBod l w' b F n := h.kept (hb.block b h.lt)
theorem MBod.new (l : List Bdy) (w : World) : MBod l (w.alloc (.map #[] 0)) w.heap.size (fun _ => none) 0 :=
  ⟨fun i x h => (by cases h), .map [], World.ownsMap_made _ _ _ _, rfl, fun i => rfl, fun i => rfl⟩
theorem MBod.congr {l : List Bdy} {w : World} {b : Nat} {F G : Int → Option Bdy} {n m : Nat} (h : MBod l w b F n) (e : ∀ i, F i = G i) (hn : n = m) : MBod l w b G m := by
  obtain rfl : F = G := funext e
  rw [← hn]; exact h
theorem MBod.look {l : List Bdy} {w : World} {b : Nat} {F : Int → Option Bdy} {n : Nat} (h : MBod l w b F n) {i : Int} (hi : i64k i) : (Instr.lookup 71 (.map (some b)) (.int .i64 i) false).run Tryz.prog w = .ok (bdv (F i)) w := by
  obtain ⟨h0, D, h1, h2, h3, h4⟩ := h
  obtain ⟨v, ps, e1, e2⟩ := h1.lookup kmap umB (zmB w) (bodE_mk (bdvs_mem (o := none) (fun x h => by cases h))) (kkey hi)
  rw [h3 i] at e2
  rw [e1, bodE_inv (bdvs_mem (h0 i)) e2]
theorem MBod.lookok {l : List Bdy} {w : World} {b : Nat} {F : Int → Option Bdy} {n : Nat} (h : MBod l w b F n) {i : Int} (hi : i64k i) : (Instr.lookup 71 (.map (some b)) (.int .i64 i) true).run Tryz.prog w = .ok (.tuple #[bdv (F i), .bool (F i).isSome]) w := by
  obtain ⟨h0, D, h1, h2, h3, h4⟩ := h
  obtain ⟨v, ps, e1, e2⟩ := h1.look_ok kmap umB (zmB w) (bodE_mk (bdvs_mem (o := none) (fun x h => by cases h))) (kkey hi)
  rw [h3 i] at e2
  rw [e1, bodE_inv (bdvs_mem (h0 i)) e2, h4 i]
theorem MBod.tight {w : World} {b n : Nat} {L : List Value} {D : DataW Unit} (h : w.ownsMap Tryz.prog 3 (bodE L) b n D) : w.ownsMap Tryz.prog 3 (bodE L) b (size D) D := by
  obtain ⟨es, clock, hb, Ft, hs, rfl⟩ := h
  exact ⟨es, clock, hb, Ft, by rw [size_eq, length_sorted]; simp, rfl⟩
theorem MBod.put {l : List Bdy} {w : World} {b : Nat} {F : Int → Option Bdy} {n : Nat} (h : MBod l w b F n) {i : Int} (hi : i64k i) (hn : n ≤ 100000) (hF : F i = none) (c : Bdy) (hc : c ∈ l) :
    ∃ w', (Instr.mapUpdate 71 (.map (some b)) (.int .i64 i) (bdv (some c))).run Tryz.prog w = .ok () w' ∧ MBod l w' b (fun j => if j = i then some c else F j) (n + 1) ∧ w.grownBy w' (some b) := by
  obtain ⟨h0, D, h1, h2, h3, h4⟩ := h
  obtain ⟨w', e1, e2, e3⟩ := h1.update kmap umB (by unfold maxLen; omega) (kkey hi) (bodE_mk (bdvs_mem (o := some c) (fun x h => by cases h; exact hc)))
  have hh : has D (.int .i64 i) = false := by rw [h4, hF]; rfl
  have hsz : size (D.put (.int .i64 i) (codeV (bdvs l) (bdv (some c)))) = n + 1 := by rw [size_put (h1.tidy kmap), hh, h2]; simp
  refine ⟨w', e1, ⟨fun j x hx => ?_, _, hsz ▸ MBod.tight e2, hsz, fun j => ?_, fun j => ?_⟩, e3⟩
  · dsimp only at hx
    split at hx
    · cases hx; exact hc
    · exact h0 j x hx
  · dsimp only
    by_cases hj : j = i
    · subst hj; rw [if_pos rfl]; exact atKey_put_same h1.isMap (klit _) _ _
    · rw [if_neg hj, ← h3 j]; exact atKey_put_other (by simpa using hj) _ _
  · dsimp only
    by_cases hj : j = i
    · subst hj; rw [if_pos rfl]; exact has_put_same h1.isMap (klit _) _
    · rw [if_neg hj, ← h4 j]; exact has_put_other (by simpa using hj) _

/-! ### The first body with an ID -/
def getB (o : List Bdy) (i : Int) : Option Bdy := o.find? fun x => x.i == i
theorem getB_some {o : List Bdy} {i : Int} : (getB o i).isSome = hasB o i := by
  unfold getB hasB
  rw [Bool.eq_iff_iff, List.find?_isSome, List.any_eq_true]
theorem getB_mem {o : List Bdy} {i : Int} {x : Bdy} (h : getB o i = some x) : x ∈ o ∧ x.i = i := ⟨List.mem_of_find?_eq_some h, by simpa using List.find?_some h⟩
theorem getB_at {o : List Bdy} (hd : o.Pairwise fun a b => a.i ≠ b.i) {x : Bdy} (h : x ∈ o) : getB o x.i = some x := by
  have hs : (getB o x.i).isSome = true := by rw [getB_some]; exact hasB_iff.2 ⟨x, h, rfl⟩
  obtain ⟨y, hy⟩ := Option.isSome_iff_exists.1 hs
  obtain ⟨h1, h2⟩ := getB_mem hy
  rw [hy]
  congr 1
  by_cases e : y = x
  · exact e
  · obtain ⟨i, hi, rfl⟩ := List.mem_iff_getElem.1 h
    obtain ⟨j, hj, rfl⟩ := List.mem_iff_getElem.1 h1
    rcases Nat.lt_trichotomy i j with h3 | rfl | h3
    · exact (List.pairwise_iff_getElem.1 hd i j hi hj h3 h2.symm).elim
    · rfl
    · exact (List.pairwise_iff_getElem.1 hd j i hj hi h3 h2).elim
theorem getB_snoc {o : List Bdy} {b : Bdy} (h : hasB o b.i = false) (j : Int) : (if j = b.i then some b else getB o j) = getB (o ++ [b]) j := by
  unfold getB
  rw [List.find?_append]
  by_cases e : j = b.i
  · subst e
    rw [if_pos rfl]
    have : o.find? (fun x => x.i == b.i) = none := by
      have := getB_some (o := o) (i := b.i)
      rw [h] at this
      unfold getB at this
      simpa using this
    rw [this]; simp
  · rw [if_neg e]
    have : [b].find? (fun x => x.i == j) = none := by simp; exact fun h => e h.symm
    rw [this]; simp
theorem fsB_all {l : List Bdy} : (fsB l).Pairwise fun a b => a.i ≠ b.i := by
  have := fsB_dst l l.length (Nat.le_refl _); rwa [List.take_length] at this
theorem fsB_sub {l : List Bdy} {k : Nat} (hk : k ≤ l.length) {x : Bdy} (h : x ∈ fsB (l.take k)) : x ∈ l := by
  obtain ⟨i, _, e, _⟩ := ((fsB_mem l k hk).1 x).1 h
  exact List.mem_of_getElem? e
/-- The IDs in order, and the bodies that they name. -/
def idsB (l : List Bdy) : List Int := (ascB l).map fun b => b.i
theorem idsB_srt (l : List Bdy) : (idsB l).Pairwise fun a b => a < b := by unfold idsB; rw [List.pairwise_map]; exact ascB_srt l
theorem idsB_mem {l : List Bdy} {i : Int} : i ∈ idsB l ↔ (getB (fsB l) i).isSome = true := by
  rw [getB_some, hasB_iff]; unfold idsB; simp only [List.mem_map]
  exact ⟨fun ⟨b, h, e⟩ => ⟨b, (ascB_perm l).mem_iff.1 h, e⟩, fun ⟨b, h, e⟩ => ⟨b, (ascB_perm l).mem_iff.2 h, e⟩⟩
theorem idsB_len (l : List Bdy) : (idsB l).length = (ascB l).length := by simp [idsB]
theorem idsB_at (l : List Bdy) {k : Nat} (h : k < (ascB l).length) : (idsB l)[k]? = some (ascB l)[k].i := by unfold idsB; rw [List.getElem?_map, List.getElem?_eq_getElem h]; rfl
theorem getB_asc (l : List Bdy) {x : Bdy} (h : x ∈ ascB l) : getB (fsB l) x.i = some x := getB_at fsB_all ((ascB_perm l).mem_iff.1 h)

end Go.Proofs.YtaahgblkmajceaaGreat

set_option linter.unusedVariables false
set_option linter.unusedSimpArgs false
namespace Go.Proofs.YtaahgblkmajceaaGreat
open Go.RowKit Fx Go.Maps

def mkeysRen : Go.Shelf.Ren := ⟨fun
  | 7 => 45
  | 10 => 61
  | 13 => 56
  | 23 => 80
  | 24 => 81
  | 26 => 102
  | 27 => 103
  | 32 => 180
  | 33 => 181
  | 34 => 182
  | 35 => 183
  | 36 => 184
  | 37 => 185
  | 38 => 186
  | 39 => 187
  | 40 => 188
  | 41 => 189
  | 42 => 190
  | 43 => 191
  | 44 => 192
  | 45 => 193
  | 46 => 194
  | 47 => 195
  | n => n, fun
  | 0 => 0
  | 1 => 1
  | 2 => 2
  | 3 => 37
  | 4 => 4
  | 5 => 5
  | 6 => 6
  | 8 => 8
  | 9 => 9
  | 10 => 10
  | 11 => 11
  | 12 => 12
  | 14 => 14
  | 15 => 15
  | 16 => 16
  | 17 => 17
  | 19 => 19
  | 21 => 21
  | 23 => 71
  | 24 => 94
  | 25 => 95
  | 26 => 3
  | 27 => 96
  | 28 => 97
  | 29 => 98
  | 32 => 110
  | 33 => 109
  | 34 => 130
  | 35 => 131
  | 36 => 107
  | 37 => 108
  | 38 => 150
  | 39 => 119
  | 40 => 120
  | 41 => 151
  | 42 => 152
  | 43 => 116
  | 44 => 153
  | 45 => 124
  | 46 => 154
  | 47 => 126
  | 48 => 127
  | 49 => 128
  | 50 => 129
  | 51 => 144
  | 52 => 145
  | 53 => 146
  | 54 => 169
  | 55 => 148
  | 56 => 170
  | 57 => 166
  | 58 => 167
  | 59 => 177
  | 60 => 184
  | 62 => 186
  | 63 => 187
  | 65 => 189
  | 66 => 190
  | 67 => 191
  | 68 => 192
  | 69 => 193
  | 70 => 194
  | 71 => 195
  | 72 => 196
  | 74 => 198
  | 75 => 199
  | n => n, fun n => n⟩

set_option maxRecDepth 100000 in
set_option maxHeartbeats 4000000 in
theorem mkeys_lays : SlLaysZI.n7 Tryz.prog mkeysRen := {
  mixed := by kernel_rfl
  f7 := ⟨"maps.Keys[map[int]carom/api.Body,int,carom/api.Body]", by decide, by kernel_rfl⟩
  f10 := ⟨"maps.Keys[map[int]carom/api.Body,int,carom/api.Body]$1", by decide, by kernel_rfl⟩
  t0 := by kernel_rfl
  a0 := fun _ => by kernel_rfl
  z0 := fun _ => by kernel_rfl
  v0 := fun _ => by kernel_rfl
  t4 := by kernel_rfl
  a4 := fun _ => by kernel_rfl
  z4 := fun _ => by kernel_rfl
  v4 := fun _ => by kernel_rfl
  t23 := by kernel_rfl
  a23 := fun _ => by kernel_rfl
  z23 := fun _ => by kernel_rfl
  v23 := fun _ => by kernel_rfl
  t26 := by kernel_rfl
  a26 := fun _ => by kernel_rfl
  z26 := fun _ => by kernel_rfl
  v26 := fun _ => by kernel_rfl
  t27 := by kernel_rfl
  a27 := fun _ => by kernel_rfl
  z27 := fun _ => by kernel_rfl
  v27 := fun _ => by kernel_rfl
  t28 := by kernel_rfl
  a28 := fun _ => by kernel_rfl
  z28 := fun _ => by kernel_rfl
  v28 := fun _ => by kernel_rfl
  t33 := by kernel_rfl
  a33 := fun _ => by kernel_rfl
  z33 := fun _ => by kernel_rfl
  v33 := fun _ => by kernel_rfl }

/-- maps.Keys(m). -/
theorem mkeys_b (mb : Option Nat) (w : World) : Calls Tryz.prog 45 #[.map mb] w fun e w' => e = .returned (.func (.func 61) #[] #[.pointer (some ⟨w.heap.size, 0, none⟩)]) ∧ w' = w.alloc (.cells #[.map mb] 71) :=
  (callsIn_wide (n := 6)).1 (AnyZI.keys_in mkeys_lays Fence.wide 6 trivial rfl mb w)

theorem srt_mergeI {ss K : List Int} (h : K.Pairwise fun a b => a < b) (hp : ss.Perm K) : (ss.mergeSort fun x y => decide (x ≤ y)) = K := by
  have h1 : (ss.mergeSort fun x y => decide (x ≤ y)).Perm K := (List.mergeSort_perm _ _).trans hp
  have h2 : (ss.mergeSort fun x y => decide (x ≤ y)).Pairwise (fun x y => decide (x ≤ y) = true) := List.pairwise_mergeSort (fun a b c h1 h2 => by simp only [decide_eq_true_eq] at *; omega) (fun a b => by simp only [Bool.or_eq_true, decide_eq_true_eq]; omega) _
  have h3 : K.Pairwise (fun x y => decide (x ≤ y) = true) := h.imp fun h => by simp only [decide_eq_true_eq]; omega
  exact List.Perm.eq_of_pairwise (fun a b _ _ h1 h2 => by simp only [decide_eq_true_eq] at *; omega) h2 h3 h1

/-- slices.Sorted(maps.Keys(m)). -/
theorem msorted_b (Bm b : Nat) (l : List Bdy) (K : List Int) (F : Int → Option Bdy) (n : Nat) (w : World) (hBm : Bm < w.heap.size) (hc : w.cell? ⟨Bm, 0, none⟩ = some (.map (some b))) (hm : MBod l w b F n) (hn : n ≤ 100000) (hK : K.Pairwise fun a b => a < b) (hF : ∀ i, (F i).isSome = true ↔ i ∈ K) :
    Calls Tryz.prog 44 #[.func (.func 61) #[] #[.pointer (some ⟨Bm, 0, none⟩)]] w fun e w' => (∃ v, e = .returned v ∧ w'.ownsRow w.heap.size 3 1 v K.length (iv K)) ∧ Below w.heap.size w w' := by
  have hk : ∃ N, N ≤ 100000 ∧ SeqGives Fence.wide 2 Tryz.prog 61 #[.pointer (some ⟨Bm, 0, none⟩)] encZ (fun ss => ss.Perm K) N w := by
    obtain ⟨_, D, h1, h2, h3, h4⟩ := hm
    have hnd : K.Nodup := List.nodup_iff_pairwise_ne.2 (hK.imp fun h => by omega)
    have hp : K.Perm (intKeys D) := CollectedI.perm (left := fun _ => false) ⟨hnd, fun x => by rw [h4, hF]; simp⟩ h1 kmap (by kernel_rfl) fun _ => rfl
    refine ⟨size D, by omega, ?_⟩
    have := AnyZI.keys_gives (ρ := mkeysRen) { mkeys_lays with } Fence.wide 2 trivial rfl (by omega) Bm b n D w hBm hc h1
    intro l J W h1 h2 h3 h4
    exact (this l J W h1 h2 h3 h4).mono fun e W' ⟨h5, xs, h6, h7⟩ => ⟨h5, xs, h6.trans hp.symm, h7⟩
  obtain ⟨N, hN, hseq⟩ := hk
  have cS := AnyZI.sorted_in bsrtd_lays Fence.wide 5 trivial trivial trivial trivial rfl (by omega) (bsorts _) (enters_of Tryz.func60 (by kernel_rfl) rfl) 61 #[.pointer (some ⟨Bm, 0, none⟩)] trivial (enters_of Tryz.func61 (by kernel_rfl) rfl) _ N (by unfold maxLen; omega) (by omega) w hseq
  refine ((callsIn_wide (n := 5)).1 cS).mono ?_
  rintro e w' ⟨v, ss, rfl, hp, hown, _, hb⟩
  refine ⟨⟨v, rfl, ?_⟩, hb⟩
  have hs := srt_mergeI hK hp
  have hl := hp.length_eq
  rw [← hl]
  rw [hs] at hown
  exact hown

end Go.Proofs.YtaahgblkmajceaaGreat
