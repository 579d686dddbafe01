/- Contracts of chapter 17's program: segments in memory, sides, smallestDistance. -/
import Derived.Test.YtipcbcngedpmkaaGreatCoD
import Derived.Test.YtipcbcngedpmkaaGreatDm
set_option linter.unusedVariables false
namespace Go.Proofs.YtipcbcngedpmkaaGreat
open Go.RowKit Fx

/-- A segment in memory: four numbers. -/
structure Sg where
  x0 : Int
  y0 : Int
  x1 : Int
  y1 : Int
  deriving DecidableEq, Inhabited
def sgc (f : Sg) : List Value := [.int .i64 f.x0, .int .i64 f.y0, .int .i64 f.x1, .int .i64 f.y1]
theorem sgc_len (f : Sg) : (sgc f).length = 4 := rfl
abbrev Sgs (w : World) (A : Option Addr) (l : List Sg) : Prop := Els w 4 (fun cs f => cs = sgc f) A l
theorem Sgs.to {w w' : World} {A : Option Addr} {l : List Sg} (h : Sgs w A l) (hb : Below w.heap.size w w') : Sgs w' A l := Els.to h (by decide) (fun _ _ h => h) hb
theorem sgs_open {w : World} {A : Option Addr} {l : List Sg} (h : Sgs w A l) (h0 : 0 < l.length) : ∃ b off, A = some ⟨b, off, none⟩ ∧ ∀ i (h : i < l.length), w.cell? ⟨b, off + i * 4, none⟩ = some (.int .i64 l[i].x0) ∧ w.cell? ⟨b, off + i * 4 + 1, none⟩ = some (.int .i64 l[i].y0) ∧ w.cell? ⟨b, off + i * 4 + 2, none⟩ = some (.int .i64 l[i].x1) ∧ w.cell? ⟨b, off + i * 4 + 3, none⟩ = some (.int .i64 l[i].y1) := by
  rcases h with h | ⟨b, off, rfl, hc⟩
  · rw [h] at h0; simp at h0
  · refine ⟨b, off, rfl, fun i hi => ?_⟩
    obtain ⟨cs, _, k, rfl⟩ := hc i hi
    exact ⟨k 0 (by decide), k 1 (by decide), k 2 (by decide), k 3 (by decide)⟩
theorem sg_arr (l : List Sg) (i : Nat) (h : i < l.length) (j : Nat) (hj : j < 4) : (l.flatMap sgc).toArray[i * 4 + j]? = (sgc l[i])[j]? := by
  rw [List.getElem?_toArray]; exact flat_get sgc_len l i h j hj
theorem sgs_of_blk {w : World} {b : Nat} {t : TypeId} {l : List Sg} (h : blk w b (l.flatMap sgc).toArray t) : Sgs w (some ⟨b, 0, none⟩) l :=
  .inr ⟨b, 0, rfl, fun i hi => ⟨sgc l[i], rfl, fun j hj => by rw [Nat.zero_add, blk_cell h]; exact sg_arr l i hi j hj, rfl⟩⟩
theorem made_sgs (n : Nat) : madeCells #[Value.int .i64 0, Value.int .i64 0, Value.int .i64 0, Value.int .i64 0] (n * 4) = ((List.replicate n (⟨0, 0, 0, 0⟩ : Sg)).flatMap sgc).toArray := by
  have e : ∀ n : Nat, (List.replicate n (⟨0, 0, 0, 0⟩ : Sg)).flatMap sgc = List.replicate (n * 4) (Value.int .i64 0) := fun n => by
    induction n with
    | zero => rfl
    | succ n ih => rw [List.replicate_succ, List.flatMap_cons, ih, show (n + 1) * 4 = n * 4 + 1 + 1 + 1 + 1 from by omega, List.replicate_succ, List.replicate_succ, List.replicate_succ, List.replicate_succ]; rfl
  rw [e]; apply Array.ext_getElem?; intro j
  by_cases hj : j < n * 4
  · have h2 : j % 4 = 0 ∨ j % 4 = 1 ∨ j % 4 = 2 ∨ j % 4 = 3 := by omega
    rcases h2 with h2 | h2 | h2 | h2 <;> simp [madeCells, hj, h2]
  · simp [madeCells, hj]
theorem sg_list_set : ∀ (l : List Sg) (i : Nat) (x y u v : Int), i < l.length → ((((l.flatMap sgc).set (i * 4) (.int .i64 x)).set (i * 4 + 1) (.int .i64 y)).set (i * 4 + 2) (.int .i64 u)).set (i * 4 + 3) (.int .i64 v) = (l.set i ⟨x, y, u, v⟩).flatMap sgc
  | [], i, _, _, _, _, h => by simp at h
  | f :: l, 0, x, y, u, v, _ => by
    rw [List.set_cons_zero, List.flatMap_cons, List.flatMap_cons]
    simp [sgc]
  | f :: l, i + 1, x, y, u, v, h => by
    rw [List.set_cons_succ, List.flatMap_cons, List.flatMap_cons, ← sg_list_set l i x y u v (by simpa using h)]
    rw [show (i + 1) * 4 + 3 = i * 4 + 3 + 4 from by omega, show (i + 1) * 4 + 2 = i * 4 + 2 + 4 from by omega, show (i + 1) * 4 + 1 = i * 4 + 1 + 4 from by omega, show (i + 1) * 4 = i * 4 + 4 from by omega]
    rfl
theorem sg_arr_set (l : List Sg) (i : Nat) (x y u v : Int) (h : i < l.length) : (((((l.flatMap sgc).toArray.setIfInBounds (i * 4) (.int .i64 x)).setIfInBounds (i * 4 + 1) (.int .i64 y)).setIfInBounds (i * 4 + 2) (.int .i64 u)).setIfInBounds (i * 4 + 3) (.int .i64 v)) = ((l.set i ⟨x, y, u, v⟩).flatMap sgc).toArray := by
  rw [← sg_list_set l i x y u v h]; simp
/-- The segments of a core. -/
def sgA (l : List Pt) (i : Nat) : Sg := ⟨(hp' l i).1, (hp' l i).2, (hp' l (i + 1)).1, (hp' l (i + 1)).2⟩
def sgL (l : List Pt) : List Sg := (List.range (nsg l)).map (sgA l)
theorem sgL_len (l : List Pt) : (sgL l).length = nsg l := by unfold sgL; rw [List.length_map, List.length_range]
theorem sgL_get (l : List Pt) {i : Nat} (h : i < (sgL l).length) : (sgL l)[i] = sgA l i := by simp [sgL]
theorem sgL_one (p : Pt) : sgL [p] = [⟨p.1, p.2, p.1, p.2⟩] := by
  show [sgA [p] 0] = _
  unfold sgA; rw [hp_one, hp_one]
theorem sgL_two (p q : Pt) : sgL [p, q] = [⟨p.1, p.2, q.1, q.2⟩] := rfl
/-- The segments as they are filled in. -/
def sfill (L : List Sg) (k : Nat) : List Sg := L.take k ++ List.replicate (L.length - k) ⟨0, 0, 0, 0⟩
theorem sfill_length {L : List Sg} {k : Nat} (h : k ≤ L.length) : (sfill L k).length = L.length := by unfold sfill; simp; omega
theorem sfill_zero (L : List Sg) : sfill L 0 = List.replicate L.length ⟨0, 0, 0, 0⟩ := by unfold sfill; simp
theorem sfill_end (L : List Sg) : sfill L L.length = L := by unfold sfill; simp
theorem sfill_succ {L : List Sg} {k : Nat} (h : k < L.length) : sfill L (k + 1) = (sfill L k).set k L[k] := by
  unfold sfill
  rw [List.set_append_right _ _ (by simp; omega)]
  have e : L.length - k = (L.length - (k + 1)) + 1 := by omega
  rw [e, List.replicate_succ]
  have e2 : k - (L.take k).length = 0 := by simp; omega
  have e3 : L.take (k + 1) = L.take k ++ [L[k]] := by rw [List.take_add_one, List.getElem?_eq_getElem h]; rfl
  rw [e2, List.set_cons_zero, e3, List.append_assoc]; rfl
def SgR (w : World) (L : List Sg) (e : Ending) (w' : World) : Prop := (∃ A' cap', e = .returned (.slice A' L.length cap') ∧ Sgs w' A' L) ∧ Below w.heap.size w w'

theorem info_side : (Tryz.prog.info? 65).map (fun i => (i.zero, i.size, i.bytes)) = some (some (.agg #[.int .i64 0, .int .i64 0, .int .i64 0, .int .i64 0]), 4, 32) := by kernel_rfl

set_option maxHeartbeats 4000000 in
theorem yside1_b (A : Option Addr) (cap : Nat) (x y : Int) (w : World) (hp : Pts w A [(x, y)]) : Calls Tryz.prog 35 #[.slice A 1 cap] w (SgR w [⟨x, y, x, y⟩]) := by
  obtain ⟨b, off, rfl, hc⟩ := pts_open0 hp (by simp)
  obtain ⟨d0, d1⟩ := hc 0 (by simp)
  have ob := older_of_cell d0
  rw [Nat.zero_mul, Nat.add_zero] at d0 d1
  dsimp only [List.getElem_cons_zero] at d0 d1
  clear hc hp
  go_enter Tryz.func35, Tryz.ntmps35
  go_wp2_with fail
  refine wp_region_gw_tail 10 (by kernel_rfl) (by kernel_rfl) ?_
  simp only [List.take_succ_cons, List.take_zero, List.drop_succ_cons, List.drop_zero]
  repeat (go_big_quiet_step (fail))
  refine wpQuiet_nil ?_
  intro w1 hw1
  obtain ⟨q, rfl⟩ := hw1
  go_wp2_with fail
  go_ret
  exact ⟨⟨_, _, rfl, sgs_of_blk (l := [⟨x, y, x, y⟩]) (t := 65) (by show blk _ _ #[.int .i64 x, .int .i64 y, .int .i64 x, .int .i64 y] _; exact bBkn)⟩, bBel⟩

set_option maxHeartbeats 4000000 in
theorem yside2_b (A : Option Addr) (cap : Nat) (x y u v : Int) (w : World) (hp : Pts w A [(x, y), (u, v)]) : Calls Tryz.prog 35 #[.slice A 2 cap] w (SgR w [⟨x, y, u, v⟩]) := by
  obtain ⟨b, off, rfl, hc⟩ := pts_open0 hp (by simp)
  obtain ⟨d0, d1⟩ := hc 0 (by simp)
  obtain ⟨d2, d3⟩ := hc 1 (by simp)
  have ob := older_of_cell d0
  rw [Nat.zero_mul, Nat.add_zero] at d0 d1
  rw [Nat.one_mul] at d2 d3
  dsimp only [List.getElem_cons_zero, List.getElem_cons_succ] at d0 d1 d2 d3
  clear hc hp
  go_enter Tryz.func35, Tryz.ntmps35
  go_wp2_with fail
  refine wp_region_gw_tail 10 (by kernel_rfl) (by kernel_rfl) ?_
  simp only [List.take_succ_cons, List.take_zero, List.drop_succ_cons, List.drop_zero]
  repeat (go_big_quiet_step (fail))
  refine wpQuiet_nil ?_
  intro w1 hw1
  obtain ⟨q, rfl⟩ := hw1
  go_wp2_with fail
  go_ret
  exact ⟨⟨_, _, rfl, sgs_of_blk (l := [⟨x, y, u, v⟩]) (t := 65) (by show blk _ _ #[.int .i64 x, .int .i64 y, .int .i64 u, .int .i64 v] _; exact bBkn)⟩, bBel⟩

set_option maxHeartbeats 8000000 in
theorem yside3_b (A : Option Addr) (cap : Nat) (l : List (Int × Int)) (h3 : 3 ≤ l.length) (hl : l.length ≤ 1000000) (w : World) (hp : Pts w A l) : Calls Tryz.prog 35 #[.slice A l.length cap] w (SgR w (sgL l)) := by
  obtain ⟨i0, hi, hz0, hz1, hz2⟩ := info_parts info_side
  have hn : nsg l = l.length := by unfold nsg; rw [if_neg (by omega)]
  obtain ⟨L, hL⟩ : ∃ L, sgL l = L := ⟨_, rfl⟩
  rw [hL]
  have hLl : Hid (L.length = l.length) := by show _ = _; rw [← hL, sgL_len, hn]
  have hLs : Hid (∀ k (h : k < l.length), sfill L (k + 1) = (sfill L k).set k ⟨(hp' l k).1, (hp' l k).2, (hp' l (k + 1)).1, (hp' l (k + 1)).2⟩) := fun k h => by
    subst hL
    rw [sfill_succ (by rw [sgL_len, hn]; exact h), sgL_get]; rfl
  clear hL hn
  have j2 : ¬ (l.length : Int) ≤ 2 := by omega
  go_enter Tryz.func35, Tryz.ntmps35
  go_upto_region 4 with (refine wpList_mk rfl _ _ 50 rfl 65 i0 (.agg #[.int .i64 0, .int .i64 0, .int .i64 0, .int .i64 0]) #[.int .i64 0, .int .i64 0, .int .i64 0, .int .i64 0] rfl 4 32 Tryz.underlying50 hi hz0 hz1 hz2 _ _ _ _ l.length l.length rfl rfl rfl rfl (Nat.le_refl _) (by omega) (by unfold maxLen; omega) ?_)
  refine wp_named ?_
  intro W hW
  have kL : blk W w.heap.size ((sfill L 0).flatMap sgc).toArray 65 := by rw [hW]; refine blk_of (c' := _) bBkn ?_; rw [sfill_zero, hLl.out]; exact made_sgs _
  have hbW : Below w.heap.size w W := by rw [hW]; exact bBel
  clear hW
  go_wp2_with fail
  go_loopw [25] (fun i wr => ∃ k : Nat, k ≤ l.length ∧ i = .int .i64 (k : Int) ∧ blk wr w.heap.size ((sfill L k).flatMap sgc).toArray 65 ∧ Below w.heap.size w wr)
    (fun i _ => (l.length - intOf i).toNat)
  case atStart => exact ⟨0, by omega, rfl, by first | exact kL | exact blk_gw kL, by first | exact hbW | exact bBel⟩
  case round =>
    obtain ⟨k, hkk, rfl, kL2, hbR⟩ := hrel
    have hszR := hbR.size
    by_cases hlt : k < l.length
    · have j0 : (0 : Int) ≤ (k : Int) := by omega
      have j1 : (k : Int) < (l.length : Int) := by omega
      have hmod := Nat.mod_lt (k + 1) (show 0 < l.length by omega)
      have hm : ((k : Int) + 1).tmod (l.length : Int) = (((k + 1) % l.length : Nat) : Int) := next_mod
      have hs : Hid _ := hLs.out k hlt
      rw [← hp_mod l (k + 1)] at hs
      generalize (k + 1) % l.length = nx at *
      rw [hp_get hlt, hp_get hmod] at hs
      have x0 : (0 : Int) ≤ (nx : Int) := by omega
      have x1 : (nx : Int) < (l.length : Int) := by omega
      obtain ⟨b2, off2, hA2, hc2⟩ := pts_open0 (Pts.to hp hbR) (by omega)
      subst hA2
      obtain ⟨d0, d1⟩ := hc2 k hlt
      obtain ⟨d2, d3⟩ := hc2 nx hmod
      have ob := older_of_cell d0
      have hLk : k < (sfill L k).length := by rw [sfill_length (by rw [hLl.out]; omega), hLl.out]; exact hlt
      have c0 := sg_arr (sfill L k) k hLk 0 (by decide)
      have c1 := sg_arr (sfill L k) k hLk 1 (by decide)
      have c2 := sg_arr (sfill L k) k hLk 2 (by decide)
      have c3 := sg_arr (sfill L k) k hLk 3 (by decide)
      rw [← blk_cell kL2] at c0 c1 c2 c3
      rw [Nat.add_zero] at c0
      replace c0 := c0.trans (show _ = some (Value.int .i64 _) from rfl)
      replace c1 := c1.trans (show _ = some (Value.int .i64 _) from rfl)
      replace c2 := c2.trans (show _ = some (Value.int .i64 _) from rfl)
      replace c3 := c3.trans (show _ = some (Value.int .i64 _) from rfl)
      have f0 := blk_free kL2 (k * 4)
      have f1 := blk_free kL2 (k * 4 + 1)
      have f2 := blk_free kL2 (k * 4 + 2)
      have f3 := blk_free kL2 (k * 4 + 3)
      have oB := blk_older kL2
      clear hc2
      generalize l[k].1 = x at *
      generalize l[k].2 = y at *
      generalize l[nx].1 = u at *
      generalize l[nx].2 = v at *
      go_wp2_with fail
      refine wp_region_gw_tail 13 (by kernel_rfl) (by kernel_rfl) ?_
      simp only [List.take_succ_cons, List.take_zero, List.drop_succ_cons, List.drop_zero]
      repeat (go_big_quiet_step (fail))
      refine wpQuiet_nil ?_
      intro w1 hw1
      obtain ⟨q, rfl⟩ := hw1
      go_wp2_with fail
      refine ⟨⟨k + 1, by omega, by go_num, ?_, bBel⟩, by (try go_num); simp [intOf]; (try omega)⟩
      rw [hs.out, ← sg_arr_set _ _ _ _ _ _ hLk]; exact (by apply blk_of; (repeat (first | with_reducible exact kL2 | with_reducible apply blk_drew | with_reducible apply blk_gw | with_reducible apply blk_alloc | with_reducible apply blk_set | ((with_reducible apply blk_other); focus omega))); (first | rfl | simp))
    · obtain rfl : k = l.length := by omega
      have j1 : ¬ (l.length : Int) < (l.length : Int) := by omega
      rw [← hLl.out, sfill_end] at kL2
      go_wp2_with fail
      go_ret
      exact ⟨⟨some ⟨w.heap.size, 0, none⟩, l.length, by rw [hLl.out]; rfl, (sgs_of_blk kL2).to bBel⟩, bBel⟩

theorem yside_b (A : Option Addr) (cap : Nat) (l : List (Int × Int)) (h1 : 1 ≤ l.length) (hl : l.length ≤ 1000000) (w : World) (hp : Pts w A l) : Calls Tryz.prog 35 #[.slice A l.length cap] w (SgR w (sgL l)) := by
  by_cases h3 : 3 ≤ l.length
  · exact yside3_b A cap l h3 hl w hp
  · match l, h1, h3, hp with
    | [p], _, _, hp => rw [sgL_one]; exact yside1_b A cap p.1 p.2 w hp
    | [p, q], _, _, hp => rw [sgL_two]; exact yside2_b A cap p.1 p.2 q.1 q.2 w hp
    | _ :: _ :: _ :: _, _, h, _ => exact absurd (by simp) h

set_option maxHeartbeats 8000000 in
theorem ysmall_b (A B_ : Option Addr) (ca cb : Nat) (l m : List (Int × Int)) (hl : l.length ≤ 1000000) (hm : m.length ≤ 1000000) (w : World) (ha : Sgs w A (sgL l)) (hb : Sgs w B_ (sgL m)) : Calls Tryz.prog 34 #[.slice A (nsg l) ca, .slice B_ (nsg m) cb] w fun e w' => e = .returned (.int .i64 (gap l m)) ∧ Below w.heap.size w w' := by
  have n1 : nsg l ≤ 1000000 := by unfold nsg; split <;> omega
  have n2 : nsg m ≤ 1000000 := by unfold nsg; split <;> omega
  have hgl : ∀ w' i, i < nsg l → Sgs w' A (sgL l) → ∃ b off, A = some ⟨b, off, none⟩ ∧ w'.cell? ⟨b, off + i * 4, none⟩ = some (.int .i64 (hp' l i).1) ∧ w'.cell? ⟨b, off + i * 4 + 1, none⟩ = some (.int .i64 (hp' l i).2) ∧ w'.cell? ⟨b, off + i * 4 + 2, none⟩ = some (.int .i64 (hp' l (i + 1)).1) ∧ w'.cell? ⟨b, off + i * 4 + 3, none⟩ = some (.int .i64 (hp' l (i + 1)).2) := fun w' i hi h => by
    obtain ⟨b, off, e, hc⟩ := sgs_open h (by rw [sgL_len]; omega)
    have := hc i (by rw [sgL_len]; exact hi)
    rw [sgL_get] at this
    exact ⟨b, off, e, this⟩
  have hgm : ∀ w' i, i < nsg m → Sgs w' B_ (sgL m) → ∃ b off, B_ = some ⟨b, off, none⟩ ∧ w'.cell? ⟨b, off + i * 4, none⟩ = some (.int .i64 (hp' m i).1) ∧ w'.cell? ⟨b, off + i * 4 + 1, none⟩ = some (.int .i64 (hp' m i).2) ∧ w'.cell? ⟨b, off + i * 4 + 2, none⟩ = some (.int .i64 (hp' m (i + 1)).1) ∧ w'.cell? ⟨b, off + i * 4 + 3, none⟩ = some (.int .i64 (hp' m (i + 1)).2) := fun w' i hi h => by
    obtain ⟨b, off, e, hc⟩ := sgs_open h (by rw [sgL_len]; omega)
    have := hc i (by rw [sgL_len]; exact hi)
    rw [sgL_get] at this
    exact ⟨b, off, e, this⟩
  obtain ⟨G, hG⟩ : ∃ G : Nat → Int, G = fun i => mn2 (sgd l m) (nsg m) 536870911 i := ⟨_, rfl⟩
  have hG0 : G 0 = 536870911 := by rw [hG]; rfl
  have hG1 : Hid (∀ i, G (i + 1) = mn1 (sgd l m i) (G i) (nsg m)) := fun i => by rw [hG]; rfl
  have hGe : gap l m = G (nsg l) := by rw [hG]; rfl
  have hS : Hid (∀ i k, sgd l m i k = sdist (hp' l i).1 (hp' l i).2 (hp' l (i + 1)).1 (hp' l (i + 1)).2 (hp' m k).1 (hp' m k).2 (hp' m (k + 1)).1 (hp' m (k + 1)).2) := fun i k => rfl
  rw [hGe]
  clear hG hGe
  generalize nsg l = n at *
  generalize nsg m = t at *
  generalize sgd l m = D at *
  go_enter Tryz.func34, Tryz.ntmps34
  go_wp2_with fail
  go_loopw [5, 12] (fun s i wr => ∃ k : Nat, k ≤ n ∧ i = .int .i64 (k : Int) ∧ s = .int .i64 (G k) ∧ Below w.heap.size w wr)
    (fun _ i _ => (n - intOf i).toNat)
  case atStart => exact ⟨0, by omega, rfl, by rw [hG0], bBel⟩
  case round =>
    obtain ⟨k, hk, rfl, rfl, hbR⟩ := hrel
    have hszR := hbR.size
    by_cases hlt : k < n
    · have i0 : (0 : Int) ≤ (k : Int) := by omega
      have i1 : (k : Int) < (n : Int) := by omega
      have hsk : Hid (∀ j, D k j = _) := fun j => hS.out k j
      have hs1 : Hid (G (k + 1) = mn1 (D k) (G k) t) := hG1.out k
      obtain ⟨b1, off1, hA1, d0, d1, d2, d3⟩ := hgl wr k hlt (ha.to hbR)
      subst hA1
      have ob := older_of_cell d0
      clear hgl
      generalize (hp' l k).1 = x0 at *
      generalize (hp' l k).2 = y0 at *
      generalize (hp' l (k + 1)).1 = x1 at *
      generalize (hp' l (k + 1)).2 = y1 at *
      generalize G k = g0 at *
      generalize D k = F at *
      go_upto_region 5 with fail
      refine wp_named ?_
      intro V hV
      have kF : blk V wr.heap.size #[.int .i64 x0, .int .i64 y0, .int .i64 x1, .int .i64 y1] 65 := by rw [hV]; first | exact bBkn | exact (by apply blk_of; (repeat (first  | with_reducible apply blk_drew | with_reducible apply blk_gw | with_reducible apply blk_alloc | with_reducible apply blk_set | ((with_reducible apply blk_other); focus omega))); (first | rfl | simp))
      have hbV : Below w.heap.size w V := by rw [hV]; exact bBel
      clear hV d0 d1 d2 d3 ob
      have hF : w.heap.size ≤ wr.heap.size := hszR
      generalize wr.heap.size = E at *
      go_wp2_with fail
      go_loopw [5, 18] (fun s j wx => ∃ p : Nat, p ≤ t ∧ j = .int .i64 (p : Int) ∧ s = .int .i64 (mn1 F g0 p) ∧ blk wx E #[.int .i64 x0, .int .i64 y0, .int .i64 x1, .int .i64 y1] 65 ∧ Below w.heap.size w wx)
        (fun _ j _ => (t - intOf j).toNat)
      case atStart => exact ⟨0, by omega, rfl, rfl, by first | exact kF | exact blk_gw kF, by first | exact hbV | exact bBel⟩
      case round =>
        obtain ⟨p, hp, rfl, rfl, kF2, hbX⟩ := hrel
        have hszX := hbX.size
        have okF2 := blk_older kF2
        have ckF2_0 : _ = some _ := blk_cell kF2 0
        have ckF2_1 : _ = some _ := blk_cell kF2 1
        have ckF2_2 : _ = some _ := blk_cell kF2 2
        have ckF2_3 : _ = some _ := blk_cell kF2 3
        have fkF2_0 := blk_free kF2 0
        have fkF2_1 := blk_free kF2 1
        have fkF2_2 := blk_free kF2 2
        have fkF2_3 := blk_free kF2 3
        by_cases hpt : p < t
        · have p0 : (0 : Int) ≤ (p : Int) := by omega
          have p1 : (p : Int) < (t : Int) := by omega
          obtain ⟨b2, off2, hA2, e0, e1, e2, e3⟩ := hgm _ p hpt (hb.to hbX)
          subst hA2
          have ob2 := older_of_cell e0
          have hsp : Hid (mn1 F g0 (p + 1) = min (mn1 F g0 p) (F p)) := rfl
          have hFp := hsk.out p
          clear hgm
          generalize (hp' m p).1 = u0 at *
          generalize (hp' m p).2 = v0 at *
          generalize (hp' m (p + 1)).1 = u1 at *
          generalize (hp' m (p + 1)).2 = v1 at *
          have cD := fun w' => xsdist_b x0 y0 x1 y1 u0 v0 u1 v1 w'
          rw [← hFp] at cD
          clear hFp
          generalize F p = d at *
          generalize mn1 F g0 p = s0 at *
          go_wp2_with (go_at_call 66; refine Calls.mono (gw_at (cD _)) ?_; rintro e w1 ⟨rfl, q, rfl⟩)
          exact ⟨⟨p + 1, by omega, by go_num, by rw [hsp.out], (by apply blk_of; (repeat (first | with_reducible exact kF2 | with_reducible apply blk_drew | with_reducible apply blk_gw | with_reducible apply blk_alloc | with_reducible apply blk_set | ((with_reducible apply blk_other); focus omega))); (first | rfl | simp)), bBel⟩, by (try go_num); simp [intOf]; (try omega)⟩
        · obtain rfl : p = t := by omega
          have p1 : ¬ (p : Int) < (p : Int) := by omega
          rw [← hs1.out]
          go_wp2_with fail
          exact ⟨⟨k + 1, by omega, by go_num, rfl, hbX⟩, by (try go_num); simp [intOf]; (try omega)⟩
    · obtain rfl : k = n := by omega
      have i1 : ¬ (k : Int) < (k : Int) := by omega
      go_wp2_with fail
      go_ret
      exact ⟨rfl, bBel⟩

end Go.Proofs.YtipcbcngedpmkaaGreat
