/- Chapter 15: the functions that the contracts of package clip and of its reference speak of; contracts of the reference. -/
import Derived.Test.YtiecpebckmihgaaGreatFixQA
import Derived.Test.YtiecpebckmihgaaGreatVt
set_option linter.unusedVariables false
namespace Go.Proofs.YtiecpebckmihgaaGreat
open Go.RowKit Fx

def hpD (v : Vtx) (ox oy nx ny : Int) : Int := dot nx ny (sub v.x ox) (sub v.y oy)
def hpA (v u : Vtx) (d e : Int) : Vtx := if 0 < d then ⟨lerp v.x u.x (ratio d (d - e)), lerp v.y u.y (ratio d (d - e)), v.id⟩ else v
def hpE (v u : Vtx) (d e : Int) : List Vtx := if 0 < d ∧ 0 < e then [] else [hpA v u d e, hpA u v e d]
def hpl : List Vtx → Int → Int → Int → Int → List Vtx
  | [v, u], ox, oy, nx, ny => hpE v u (hpD v ox oy nx ny) (hpD u ox oy nx ny)
  | _, _, _, _, _ => []
def toE (ps : List Pt) (i : Int) (qs : List Pt) (k : Int) : List Vtx :=
  if eOK ps i ∧ eOK qs k then
    hpl (hpl [⟨(hp' qs k.toNat).1, (hp' qs k.toNat).2, 0⟩, ⟨(hp' qs (k.toNat + 1)).1, (hp' qs (k.toNat + 1)).2, 1⟩] (hp' ps (i.toNat + 1)).1 (hp' ps (i.toNat + 1)).2 (eDir ps i).1 (eDir ps i).2)
      (hp' ps i.toNat).1 (hp' ps i.toNat).2 (-(eDir ps i).1) (-(eDir ps i).2)
  else []
theorem hpl_not {l : List Vtx} (h : l.length ≠ 2) (ox oy nx ny : Int) : hpl l ox oy nx ny = [] := by
  match l, h with
  | [], _ => rfl
  | [_], _ => rfl
  | [_, _], h => exact absurd rfl h
  | _ :: _ :: _ :: _, _ => rfl
theorem hpE_len (v u : Vtx) (d e : Int) : (hpE v u d e).length = 0 ∨ ∃ a b, hpE v u d e = [a, b] ∧ a.id = v.id ∧ b.id = u.id := by
  unfold hpE
  split
  · exact .inl rfl
  · refine .inr ⟨_, _, rfl, ?_, ?_⟩ <;> (unfold hpA; split <;> rfl)
theorem hpl_len (l : List Vtx) (ox oy nx ny : Int) : hpl l ox oy nx ny = [] ∨ ∃ v u a b, l = [v, u] ∧ hpl l ox oy nx ny = [a, b] ∧ a.id = v.id ∧ b.id = u.id := by
  by_cases h : l.length = 2
  · obtain ⟨v, u, rfl⟩ := len_2 h
    rcases hpE_len v u (hpD v ox oy nx ny) (hpD u ox oy nx ny) with h | ⟨a, b, h, h1, h2⟩
    · exact .inl (List.eq_nil_of_length_eq_zero h)
    · exact .inr ⟨v, u, a, b, rfl, h, h1, h2⟩
  · exact .inl (hpl_not h _ _ _ _)
theorem toE_len (ps : List Pt) (i : Int) (qs : List Pt) (k : Int) : toE ps i qs k = [] ∨ ∃ a b, toE ps i qs k = [a, b] ∧ a.id = 0 ∧ b.id = 1 := by
  unfold toE
  split
  · rcases hpl_len (hpl [⟨(hp' qs k.toNat).1, (hp' qs k.toNat).2, 0⟩, ⟨(hp' qs (k.toNat + 1)).1, (hp' qs (k.toNat + 1)).2, 1⟩] (hp' ps (i.toNat + 1)).1 (hp' ps (i.toNat + 1)).2 (eDir ps i).1 (eDir ps i).2) (hp' ps i.toNat).1 (hp' ps i.toNat).2 (-(eDir ps i).1) (-(eDir ps i).2) with h | ⟨v, u, a, b, h1, h2, h3, h4⟩
    · exact .inl h
    · refine .inr ⟨a, b, h2, ?_, ?_⟩
      · rcases hpl_len [⟨(hp' qs k.toNat).1, (hp' qs k.toNat).2, 0⟩, ⟨(hp' qs (k.toNat + 1)).1, (hp' qs (k.toNat + 1)).2, 1⟩] (hp' ps (i.toNat + 1)).1 (hp' ps (i.toNat + 1)).2 (eDir ps i).1 (eDir ps i).2 with g | ⟨v', u', a', b', g1, g2, g3, g4⟩
        · rw [g] at h1; simp at h1
        · rw [g2] at h1; simp at h1 g1; rw [h3, ← h1.1, g3, ← g1.1]
      · rcases hpl_len [⟨(hp' qs k.toNat).1, (hp' qs k.toNat).2, 0⟩, ⟨(hp' qs (k.toNat + 1)).1, (hp' qs (k.toNat + 1)).2, 1⟩] (hp' ps (i.toNat + 1)).1 (hp' ps (i.toNat + 1)).2 (eDir ps i).1 (eDir ps i).2 with g | ⟨v', u', a', b', g1, g2, g3, g4⟩
        · rw [g] at h1; simp at h1
        · rw [g2] at h1; simp at h1 g1; rw [h4, ← h1.2, g4, ← g1.2]
  · exact .inl rfl
theorem then_nm {N : Act → World → Prop} {Q : Exit → Act → World → Prop} {x : Exit} {a : Act} {w : World} (h : ∀ W, W = w → Exit.then N Q x a W) : Exit.then N Q x a w := h w rfl
theorem list_nm {P : Program} {ops : Array Oper} {Q : Exit → Act → World → Prop} {rest : List Oper} {a : Act} {w : World} (h : ∀ W, W = w → wpList P ops Q rest a W) : wpList P ops Q rest a w := h w rfl
theorem hdot_in (a b c d : Int) : -536870911 ≤ dot a b c d ∧ dot a b c d ≤ 536870911 := ⟨sat_ge _, sat_le _⟩
def VtxR (w : World) (R : List Vtx) (e : Ending) (w' : World) : Prop := (∃ A' cap', e = .returned (.slice A' R.length cap') ∧ R.length ≤ cap' ∧ cap' ≤ maxLen ∧ Vts w' A' R ∧ (A' = none → cap' = 0)) ∧ Below w.heap.size w w'
theorem vts_two {w : World} {b : Nat} {t : TypeId} {v u : Vtx} (h : blk w b #[.int .i64 v.x, .int .i64 v.y, .int .i64 v.id, .int .i64 u.x, .int .i64 u.y, .int .i64 u.id] t) : Vts w (some ⟨b, 0, none⟩) [v, u] :=
  .inr ⟨b, 0, rfl, fun i hi => ⟨vtc [v, u][i], rfl, fun j hj => by
    have : i = 0 ∨ i = 1 := by simp at hi; omega
    rcases this with rfl | rfl
    · rw [Nat.zero_mul, Nat.zero_add, blk_cell h]
      match j, hj with
      | 0, _ => rfl
      | 1, _ => rfl
      | 2, _ => rfl
    · rw [Nat.one_mul, Nat.zero_add, blk_cell h]
      match j, hj with
      | 0, _ => rfl
      | 1, _ => rfl
      | 2, _ => rfl, rfl⟩⟩
theorem vts_cells {w : World} {A : Option Addr} {v u : Vtx} (h : Vts w A [v, u]) : ∃ b off, A = some ⟨b, off, none⟩ ∧ ∀ w', Below w.heap.size w w' → w'.cell? ⟨b, off, none⟩ = some (.int .i64 v.x) ∧ w'.cell? ⟨b, off + 1, none⟩ = some (.int .i64 v.y) ∧ w'.cell? ⟨b, off + 2, none⟩ = some (.int .i64 v.id) ∧ w'.cell? ⟨b, off + 3, none⟩ = some (.int .i64 u.x) ∧ w'.cell? ⟨b, off + 4, none⟩ = some (.int .i64 u.y) ∧ w'.cell? ⟨b, off + 5, none⟩ = some (.int .i64 u.id) := by
  obtain ⟨b, off, rfl, hc⟩ := vts_open h (by simp)
  refine ⟨b, off, rfl, fun w' hb => ?_⟩
  obtain ⟨h1, h2, h3⟩ := hc 0 (by simp) w' hb
  obtain ⟨h4, h5, h6⟩ := hc 1 (by simp) w' hb
  exact ⟨h1, h2, h3, h4, h5, h6⟩

set_option maxRecDepth 100000 in
set_option maxHeartbeats 8000000 in
theorem rhalf2_b (A : Option Addr) (cap : Nat) (v u : Vtx) (ox oy nx ny : Int) (w : World) (ha : Vts w A [v, u]) : Calls Tryz.prog 137 #[.slice A 2 cap, .agg #[.int .i64 ox, .int .i64 oy], .agg #[.int .i64 nx, .int .i64 ny]] w (VtxR w (hpE v u (hpD v ox oy nx ny) (hpD u ox oy nx ny))) := by
  obtain ⟨b, off, rfl, hc⟩ := vts_cells ha
  obtain ⟨d0, d1, d2, d3, d4, d5⟩ := hc w (Below.refl _ _)
  have od := older_of_cell d0
  clear ha
  have b1 := hdot_in nx ny (sub v.x ox) (sub v.y oy)
  have b2 := hdot_in nx ny (sub u.x ox) (sub u.y oy)
  have c1 := fun w' => rvsub_b v.x v.y ox oy w'
  have c2 := fun w' => rvsub_b u.x u.y ox oy w'
  have c3 := fun w' => rdot_b nx ny (sub v.x ox) (sub v.y oy) w'
  have c4 := fun w' => rdot_b nx ny (sub u.x ox) (sub u.y oy) w'
  unfold hpD
  generalize hd : dot nx ny (sub v.x ox) (sub v.y oy) = d at *
  generalize he : dot nx ny (sub u.x ox) (sub u.y oy) = e at *
  clear hd he
  generalize sub v.x ox = s1 at *
  generalize sub v.y oy = s2 at *
  generalize sub u.x ox = s3 at *
  generalize sub u.y oy = s4 at *
  obtain ⟨vx, vy, vi⟩ := v
  obtain ⟨ux, uy, ui⟩ := u
  dsimp only at hc d0 d1 d2 d3 d4 d5 c1 c2
  have hcH : Hid (∀ w', Below w.heap.size w w' → _) := hc
  clear hc
  have c5 := fun w' => rrt_b d (d - e) w'
  have c6 := fun w' => rrt_b e (e - d) w'
  have c7 := fun w' => rvlerp_b vx vy ux uy (ratio d (d - e)) w'
  have c8 := fun w' => rvlerp_b ux uy vx vy (ratio e (e - d)) w'
  by_cases n1 : 0 < d
  · by_cases n2 : 0 < e
    · rw [show hpE ⟨vx, vy, vi⟩ ⟨ux, uy, ui⟩ d e = [] from if_pos ⟨n1, n2⟩]
      clear c5 c6 c7 c8 hcH
      go_enter Tryz.func137, Tryz.ntmps137
      go_wp2_with fail
      first
        | (refine wp_region_gw (by kernel_rfl) (by decide +kernel) ?_
           repeat (go_big_quiet_step ((first | (go_at_call 23; with_reducible_and_instances exact gw_call (c1 _)) | (go_at_call 23; with_reducible_and_instances exact gw_call (c2 _)) | (go_at_call 105; with_reducible_and_instances exact gw_call (c3 _)) | (go_at_call 105; with_reducible_and_instances exact gw_call (c4 _)))))
           refine wpQuiet_nil ?_
           intro w1 hw1
           obtain ⟨q, rfl⟩ := hw1)
        | (refine wp_region_gw_tail 15 (by kernel_rfl) (by decide +kernel) ?_
           simp only [List.take_succ_cons, List.take_zero, List.drop_succ_cons, List.drop_zero]
           repeat (go_big_quiet_step ((first | (go_at_call 23; with_reducible_and_instances exact gw_call (c1 _)) | (go_at_call 23; with_reducible_and_instances exact gw_call (c2 _)) | (go_at_call 105; with_reducible_and_instances exact gw_call (c3 _)) | (go_at_call 105; with_reducible_and_instances exact gw_call (c4 _)))))
           refine wpQuiet_nil ?_
           intro w1 hw1
           obtain ⟨q, rfl⟩ := hw1)
      go_wp2_with fail
      first
        | (refine wp_region_gw (by kernel_rfl) (by decide +kernel) ?_
           repeat (go_big_quiet_step ((first | (go_at_call 23; with_reducible_and_instances exact gw_call (c1 _)) | (go_at_call 23; with_reducible_and_instances exact gw_call (c2 _)) | (go_at_call 105; with_reducible_and_instances exact gw_call (c3 _)) | (go_at_call 105; with_reducible_and_instances exact gw_call (c4 _)))))
           refine wpQuiet_nil ?_
           intro w1 hw1
           obtain ⟨q, rfl⟩ := hw1)
        | (refine wp_region_gw_tail 15 (by kernel_rfl) (by decide +kernel) ?_
           simp only [List.take_succ_cons, List.take_zero, List.drop_succ_cons, List.drop_zero]
           repeat (go_big_quiet_step ((first | (go_at_call 23; with_reducible_and_instances exact gw_call (c1 _)) | (go_at_call 23; with_reducible_and_instances exact gw_call (c2 _)) | (go_at_call 105; with_reducible_and_instances exact gw_call (c3 _)) | (go_at_call 105; with_reducible_and_instances exact gw_call (c4 _)))))
           refine wpQuiet_nil ?_
           intro w1 hw1
           obtain ⟨q, rfl⟩ := hw1)
      go_wp2_with fail
      go_ret
      exact ⟨⟨none, 0, rfl, by simp, by decide, .inl rfl, fun _ => rfl⟩, bBel⟩
    · rw [show hpE ⟨vx, vy, vi⟩ ⟨ux, uy, ui⟩ d e = [⟨lerp vx ux (ratio d (d - e)), lerp vy uy (ratio d (d - e)), vi⟩, ⟨ux, uy, ui⟩] from by unfold hpE; rw [if_neg (fun h => n2 h.2)]; unfold hpA; rw [if_pos n1, if_neg n2]]
      clear c6 c8
      generalize ratio d (d - e) = r at *
      generalize lerp vx ux r = lx at *
      generalize lerp vy uy r = ly at *
      go_enter Tryz.func137, Tryz.ntmps137
      go_wp2_with fail
      first
        | (refine wp_region_gw (by kernel_rfl) (by decide +kernel) ?_
           repeat (go_big_quiet_step ((first | (go_at_call 23; with_reducible_and_instances exact gw_call (c1 _)) | (go_at_call 23; with_reducible_and_instances exact gw_call (c2 _)) | (go_at_call 105; with_reducible_and_instances exact gw_call (c3 _)) | (go_at_call 105; with_reducible_and_instances exact gw_call (c4 _)))))
           refine wpQuiet_nil ?_
           intro w1 hw1
           obtain ⟨q, rfl⟩ := hw1)
        | (refine wp_region_gw_tail 15 (by kernel_rfl) (by decide +kernel) ?_
           simp only [List.take_succ_cons, List.take_zero, List.drop_succ_cons, List.drop_zero]
           repeat (go_big_quiet_step ((first | (go_at_call 23; with_reducible_and_instances exact gw_call (c1 _)) | (go_at_call 23; with_reducible_and_instances exact gw_call (c2 _)) | (go_at_call 105; with_reducible_and_instances exact gw_call (c3 _)) | (go_at_call 105; with_reducible_and_instances exact gw_call (c4 _)))))
           refine wpQuiet_nil ?_
           intro w1 hw1
           obtain ⟨q, rfl⟩ := hw1)
      go_wp2_with fail
      first
        | (refine wp_region_gw (by kernel_rfl) (by decide +kernel) ?_
           repeat (go_big_quiet_step ((first | (go_at_call 23; with_reducible_and_instances exact gw_call (c1 _)) | (go_at_call 23; with_reducible_and_instances exact gw_call (c2 _)) | (go_at_call 105; with_reducible_and_instances exact gw_call (c3 _)) | (go_at_call 105; with_reducible_and_instances exact gw_call (c4 _)))))
           refine wpQuiet_nil ?_
           intro w1 hw1
           obtain ⟨q, rfl⟩ := hw1)
        | (refine wp_region_gw_tail 15 (by kernel_rfl) (by decide +kernel) ?_
           simp only [List.take_succ_cons, List.take_zero, List.drop_succ_cons, List.drop_zero]
           repeat (go_big_quiet_step ((first | (go_at_call 23; with_reducible_and_instances exact gw_call (c1 _)) | (go_at_call 23; with_reducible_and_instances exact gw_call (c2 _)) | (go_at_call 105; with_reducible_and_instances exact gw_call (c3 _)) | (go_at_call 105; with_reducible_and_instances exact gw_call (c4 _)))))
           refine wpQuiet_nil ?_
           intro w1 hw1
           obtain ⟨q, rfl⟩ := hw1)
      clear c1 c2 c3 c4
      refine then_nm ?_
      intro W hW
      have hbW : Below w.heap.size w W := by rw [hW]; exact bBel
      clear hW
      have hszW := hbW.size
      obtain ⟨d0, d1, d2, d3, d4, d5⟩ := hcH.out W hbW
      have od := older_of_cell d0
      go_wp2_with fail
      refine wp_named ?_
      intro X hX
      have kA : blk X W.heap.size #[.int .i64 vx, .int .i64 vy, .int .i64 vi] 109 := by rw [hX]; exact bBkn
      have kB : blk X (W.heap.size + 1) #[.int .i64 ux, .int .i64 uy, .int .i64 ui] 109 := by rw [hX]; exact bBkn
      have hbX : Below w.heap.size w X := by rw [hX]; exact bBel
      have hszX := hbX.size
      clear hX
      clear d0 d1 d2 d3 d4 d5 od
      obtain ⟨d0, d1, d2, d3, d4, d5⟩ := hcH.out X hbX
      have od := older_of_cell d0
      clear hcH
      generalize W.heap.size = m at *
      have okA := blk_older kA
      have ckA_0 : _ = some _ := blk_cell kA 0
      have ckA_1 : _ = some _ := blk_cell kA 1
      have ckA_2 : _ = some _ := blk_cell kA 2
      have fkA_0 := blk_free kA 0
      have fkA_1 := blk_free kA 1
      have fkA_2 := blk_free kA 2
      have okB := blk_older kB
      have ckB_0 : _ = some _ := blk_cell kB 0
      have ckB_1 : _ = some _ := blk_cell kB 1
      have ckB_2 : _ = some _ := blk_cell kB 2
      have fkB_0 := blk_free kB 0
      have fkB_1 := blk_free kB 1
      have fkB_2 := blk_free kB 2
      first
        | (refine wp_region_gw (by kernel_rfl) (by decide +kernel) ?_
           repeat (go_big_quiet_step ((first | (go_at_call 98; with_reducible_and_instances exact gw_call (c5 _)) | (go_at_call 97; with_reducible_and_instances exact gw_call (c7 _)))))
           refine wpQuiet_nil ?_
           intro w1 hw1
           obtain ⟨q, rfl⟩ := hw1)
        | (refine wp_region_gw_tail 15 (by kernel_rfl) (by decide +kernel) ?_
           simp only [List.take_succ_cons, List.take_zero, List.drop_succ_cons, List.drop_zero]
           repeat (go_big_quiet_step ((first | (go_at_call 98; with_reducible_and_instances exact gw_call (c5 _)) | (go_at_call 97; with_reducible_and_instances exact gw_call (c7 _)))))
           refine wpQuiet_nil ?_
           intro w1 hw1
           obtain ⟨q, rfl⟩ := hw1)
      refine list_nm ?_
      intro Y hY
      have kA1 : blk Y m #[.int .i64 vx, .int .i64 vy, .int .i64 vi] 109 := by rw [hY]; exact (by apply blk_of; (repeat (first | with_reducible exact kA | with_reducible apply blk_drew | with_reducible apply blk_gw | with_reducible apply blk_alloc | with_reducible apply blk_set | ((with_reducible apply blk_other); focus omega))); (first | rfl | simp))
      have kB1 : blk Y (m + 1) #[.int .i64 ux, .int .i64 uy, .int .i64 ui] 109 := by rw [hY]; exact (by apply blk_of; (repeat (first | with_reducible exact kB | with_reducible apply blk_drew | with_reducible apply blk_gw | with_reducible apply blk_alloc | with_reducible apply blk_set | ((with_reducible apply blk_other); focus omega))); (first | rfl | simp))
      have hbY : Below w.heap.size w Y := by rw [hY]; exact bBel
      clear hY
      clear d0 d1 d2 d3 d4 d5 od ckA_0 ckA_1 ckA_2 fkA_0 fkA_1 fkA_2 ckB_0 ckB_1 ckB_2 fkB_0 fkB_1 fkB_2 okA okB kA kB
      have okA1 := blk_older kA1
      have ckA1_0 : _ = some _ := blk_cell kA1 0
      have ckA1_1 : _ = some _ := blk_cell kA1 1
      have ckA1_2 : _ = some _ := blk_cell kA1 2
      have fkA1_0 := blk_free kA1 0
      have fkA1_1 := blk_free kA1 1
      have fkA1_2 := blk_free kA1 2
      have okB1 := blk_older kB1
      have ckB1_0 : _ = some _ := blk_cell kB1 0
      have ckB1_1 : _ = some _ := blk_cell kB1 1
      have ckB1_2 : _ = some _ := blk_cell kB1 2
      have fkB1_0 := blk_free kB1 0
      have fkB1_1 := blk_free kB1 1
      have fkB1_2 := blk_free kB1 2
      go_wp2_with fail
      refine post_nmd ?_
      intro Z hZ
      have kZ : blk Z Y.heap.size #[.int .i64 lx, .int .i64 ly, .int .i64 vi, .int .i64 ux, .int .i64 uy, .int .i64 ui] 109 := by rw [hZ]; exact bBkn
      have hbZ : Below w.heap.size w Z := by have := hbY.size; rw [hZ]; exact bBel
      clear hZ
      exact bodyPost_ret (v := .slice (some ⟨Y.heap.size, 0, none⟩) 2 2) (by simp [results, Tryz.results137, go_sem]) rfl ⟨⟨_, 2, rfl, by simp, by decide, vts_two kZ, fun h => by simp at h⟩, hbZ⟩
  · by_cases n2 : 0 < e
    · rw [show hpE ⟨vx, vy, vi⟩ ⟨ux, uy, ui⟩ d e = [⟨vx, vy, vi⟩, ⟨lerp ux vx (ratio e (e - d)), lerp uy vy (ratio e (e - d)), ui⟩] from by unfold hpE; rw [if_neg (fun h => n1 h.1)]; unfold hpA; rw [if_pos n2, if_neg n1]]
      clear c5 c7
      generalize ratio e (e - d) = r at *
      generalize lerp ux vx r = lx at *
      generalize lerp uy vy r = ly at *
      go_enter Tryz.func137, Tryz.ntmps137
      go_wp2_with fail
      first
        | (refine wp_region_gw (by kernel_rfl) (by decide +kernel) ?_
           repeat (go_big_quiet_step ((first | (go_at_call 23; with_reducible_and_instances exact gw_call (c1 _)) | (go_at_call 23; with_reducible_and_instances exact gw_call (c2 _)) | (go_at_call 105; with_reducible_and_instances exact gw_call (c3 _)) | (go_at_call 105; with_reducible_and_instances exact gw_call (c4 _)))))
           refine wpQuiet_nil ?_
           intro w1 hw1
           obtain ⟨q, rfl⟩ := hw1)
        | (refine wp_region_gw_tail 15 (by kernel_rfl) (by decide +kernel) ?_
           simp only [List.take_succ_cons, List.take_zero, List.drop_succ_cons, List.drop_zero]
           repeat (go_big_quiet_step ((first | (go_at_call 23; with_reducible_and_instances exact gw_call (c1 _)) | (go_at_call 23; with_reducible_and_instances exact gw_call (c2 _)) | (go_at_call 105; with_reducible_and_instances exact gw_call (c3 _)) | (go_at_call 105; with_reducible_and_instances exact gw_call (c4 _)))))
           refine wpQuiet_nil ?_
           intro w1 hw1
           obtain ⟨q, rfl⟩ := hw1)
      go_wp2_with fail
      first
        | (refine wp_region_gw (by kernel_rfl) (by decide +kernel) ?_
           repeat (go_big_quiet_step ((first | (go_at_call 23; with_reducible_and_instances exact gw_call (c1 _)) | (go_at_call 23; with_reducible_and_instances exact gw_call (c2 _)) | (go_at_call 105; with_reducible_and_instances exact gw_call (c3 _)) | (go_at_call 105; with_reducible_and_instances exact gw_call (c4 _)))))
           refine wpQuiet_nil ?_
           intro w1 hw1
           obtain ⟨q, rfl⟩ := hw1)
        | (refine wp_region_gw_tail 15 (by kernel_rfl) (by decide +kernel) ?_
           simp only [List.take_succ_cons, List.take_zero, List.drop_succ_cons, List.drop_zero]
           repeat (go_big_quiet_step ((first | (go_at_call 23; with_reducible_and_instances exact gw_call (c1 _)) | (go_at_call 23; with_reducible_and_instances exact gw_call (c2 _)) | (go_at_call 105; with_reducible_and_instances exact gw_call (c3 _)) | (go_at_call 105; with_reducible_and_instances exact gw_call (c4 _)))))
           refine wpQuiet_nil ?_
           intro w1 hw1
           obtain ⟨q, rfl⟩ := hw1)
      clear c1 c2 c3 c4
      refine then_nm ?_
      intro W hW
      have hbW : Below w.heap.size w W := by rw [hW]; exact bBel
      clear hW
      have hszW := hbW.size
      obtain ⟨d0, d1, d2, d3, d4, d5⟩ := hcH.out W hbW
      have od := older_of_cell d0
      go_wp2_with fail
      refine wp_named ?_
      intro X hX
      have kA : blk X W.heap.size #[.int .i64 vx, .int .i64 vy, .int .i64 vi] 109 := by rw [hX]; exact bBkn
      have kB : blk X (W.heap.size + 1) #[.int .i64 ux, .int .i64 uy, .int .i64 ui] 109 := by rw [hX]; exact bBkn
      have hbX : Below w.heap.size w X := by rw [hX]; exact bBel
      have hszX := hbX.size
      clear hX
      clear d0 d1 d2 d3 d4 d5 od
      obtain ⟨d0, d1, d2, d3, d4, d5⟩ := hcH.out X hbX
      have od := older_of_cell d0
      clear hcH
      generalize W.heap.size = m at *
      have okA := blk_older kA
      have ckA_0 : _ = some _ := blk_cell kA 0
      have ckA_1 : _ = some _ := blk_cell kA 1
      have ckA_2 : _ = some _ := blk_cell kA 2
      have fkA_0 := blk_free kA 0
      have fkA_1 := blk_free kA 1
      have fkA_2 := blk_free kA 2
      have okB := blk_older kB
      have ckB_0 : _ = some _ := blk_cell kB 0
      have ckB_1 : _ = some _ := blk_cell kB 1
      have ckB_2 : _ = some _ := blk_cell kB 2
      have fkB_0 := blk_free kB 0
      have fkB_1 := blk_free kB 1
      have fkB_2 := blk_free kB 2
      first
        | (refine wp_region_gw (by kernel_rfl) (by decide +kernel) ?_
           repeat (go_big_quiet_step ((first | (go_at_call 98; with_reducible_and_instances exact gw_call (c6 _)) | (go_at_call 97; with_reducible_and_instances exact gw_call (c8 _)))))
           refine wpQuiet_nil ?_
           intro w1 hw1
           obtain ⟨q, rfl⟩ := hw1)
        | (refine wp_region_gw_tail 15 (by kernel_rfl) (by decide +kernel) ?_
           simp only [List.take_succ_cons, List.take_zero, List.drop_succ_cons, List.drop_zero]
           repeat (go_big_quiet_step ((first | (go_at_call 98; with_reducible_and_instances exact gw_call (c6 _)) | (go_at_call 97; with_reducible_and_instances exact gw_call (c8 _)))))
           refine wpQuiet_nil ?_
           intro w1 hw1
           obtain ⟨q, rfl⟩ := hw1)
      refine list_nm ?_
      intro Y hY
      have kA1 : blk Y m #[.int .i64 vx, .int .i64 vy, .int .i64 vi] 109 := by rw [hY]; exact (by apply blk_of; (repeat (first | with_reducible exact kA | with_reducible apply blk_drew | with_reducible apply blk_gw | with_reducible apply blk_alloc | with_reducible apply blk_set | ((with_reducible apply blk_other); focus omega))); (first | rfl | simp))
      have kB1 : blk Y (m + 1) #[.int .i64 ux, .int .i64 uy, .int .i64 ui] 109 := by rw [hY]; exact (by apply blk_of; (repeat (first | with_reducible exact kB | with_reducible apply blk_drew | with_reducible apply blk_gw | with_reducible apply blk_alloc | with_reducible apply blk_set | ((with_reducible apply blk_other); focus omega))); (first | rfl | simp))
      have hbY : Below w.heap.size w Y := by rw [hY]; exact bBel
      clear hY
      clear d0 d1 d2 d3 d4 d5 od ckA_0 ckA_1 ckA_2 fkA_0 fkA_1 fkA_2 ckB_0 ckB_1 ckB_2 fkB_0 fkB_1 fkB_2 okA okB kA kB
      have okA1 := blk_older kA1
      have ckA1_0 : _ = some _ := blk_cell kA1 0
      have ckA1_1 : _ = some _ := blk_cell kA1 1
      have ckA1_2 : _ = some _ := blk_cell kA1 2
      have fkA1_0 := blk_free kA1 0
      have fkA1_1 := blk_free kA1 1
      have fkA1_2 := blk_free kA1 2
      have okB1 := blk_older kB1
      have ckB1_0 : _ = some _ := blk_cell kB1 0
      have ckB1_1 : _ = some _ := blk_cell kB1 1
      have ckB1_2 : _ = some _ := blk_cell kB1 2
      have fkB1_0 := blk_free kB1 0
      have fkB1_1 := blk_free kB1 1
      have fkB1_2 := blk_free kB1 2
      go_wp2_with fail
      refine post_nmd ?_
      intro Z hZ
      have kZ : blk Z (Y.heap.size) #[.int .i64 vx, .int .i64 vy, .int .i64 vi, .int .i64 lx, .int .i64 ly, .int .i64 ui] 109 := by rw [hZ]; exact bBkn
      have hbZ : Below w.heap.size w Z := by have := hbY.size; rw [hZ]; exact bBel
      clear hZ
      exact bodyPost_ret (v := .slice (some ⟨Y.heap.size, 0, none⟩) 2 2) (by simp [results, Tryz.results137, go_sem]) rfl ⟨⟨_, 2, rfl, by simp, by decide, vts_two kZ, fun h => by simp at h⟩, hbZ⟩
    · rw [show hpE ⟨vx, vy, vi⟩ ⟨ux, uy, ui⟩ d e = [⟨vx, vy, vi⟩, ⟨ux, uy, ui⟩] from by unfold hpE; rw [if_neg (fun h => n1 h.1)]; unfold hpA; rw [if_neg n2, if_neg n1]]
      clear c5 c6 c7 c8
      go_enter Tryz.func137, Tryz.ntmps137
      go_wp2_with fail
      first
        | (refine wp_region_gw (by kernel_rfl) (by decide +kernel) ?_
           repeat (go_big_quiet_step ((first | (go_at_call 23; with_reducible_and_instances exact gw_call (c1 _)) | (go_at_call 23; with_reducible_and_instances exact gw_call (c2 _)) | (go_at_call 105; with_reducible_and_instances exact gw_call (c3 _)) | (go_at_call 105; with_reducible_and_instances exact gw_call (c4 _)))))
           refine wpQuiet_nil ?_
           intro w1 hw1
           obtain ⟨q, rfl⟩ := hw1)
        | (refine wp_region_gw_tail 15 (by kernel_rfl) (by decide +kernel) ?_
           simp only [List.take_succ_cons, List.take_zero, List.drop_succ_cons, List.drop_zero]
           repeat (go_big_quiet_step ((first | (go_at_call 23; with_reducible_and_instances exact gw_call (c1 _)) | (go_at_call 23; with_reducible_and_instances exact gw_call (c2 _)) | (go_at_call 105; with_reducible_and_instances exact gw_call (c3 _)) | (go_at_call 105; with_reducible_and_instances exact gw_call (c4 _)))))
           refine wpQuiet_nil ?_
           intro w1 hw1
           obtain ⟨q, rfl⟩ := hw1)
      go_wp2_with fail
      first
        | (refine wp_region_gw (by kernel_rfl) (by decide +kernel) ?_
           repeat (go_big_quiet_step ((first | (go_at_call 23; with_reducible_and_instances exact gw_call (c1 _)) | (go_at_call 23; with_reducible_and_instances exact gw_call (c2 _)) | (go_at_call 105; with_reducible_and_instances exact gw_call (c3 _)) | (go_at_call 105; with_reducible_and_instances exact gw_call (c4 _)))))
           refine wpQuiet_nil ?_
           intro w1 hw1
           obtain ⟨q, rfl⟩ := hw1)
        | (refine wp_region_gw_tail 15 (by kernel_rfl) (by decide +kernel) ?_
           simp only [List.take_succ_cons, List.take_zero, List.drop_succ_cons, List.drop_zero]
           repeat (go_big_quiet_step ((first | (go_at_call 23; with_reducible_and_instances exact gw_call (c1 _)) | (go_at_call 23; with_reducible_and_instances exact gw_call (c2 _)) | (go_at_call 105; with_reducible_and_instances exact gw_call (c3 _)) | (go_at_call 105; with_reducible_and_instances exact gw_call (c4 _)))))
           refine wpQuiet_nil ?_
           intro w1 hw1
           obtain ⟨q, rfl⟩ := hw1)
      clear c1 c2 c3 c4
      refine then_nm ?_
      intro W hW
      have hbW : Below w.heap.size w W := by rw [hW]; exact bBel
      clear hW
      have hszW := hbW.size
      obtain ⟨d0, d1, d2, d3, d4, d5⟩ := hcH.out W hbW
      have od := older_of_cell d0
      go_wp2_with fail
      refine post_nmd ?_
      intro Z hZ
      have kZ : blk Z (W.heap.size + 2) #[.int .i64 vx, .int .i64 vy, .int .i64 vi, .int .i64 ux, .int .i64 uy, .int .i64 ui] 109 := by rw [hZ]; exact bBkn
      have hbZ : Below w.heap.size w Z := by rw [hZ]; exact bBel
      clear hZ
      exact bodyPost_ret (v := .slice (some ⟨W.heap.size + 2, 0, none⟩) 2 2) (by simp [results, Tryz.results137, go_sem]) rfl ⟨⟨_, 2, rfl, by simp, by decide, vts_two kZ, fun h => by simp at h⟩, hbZ⟩

theorem rhalf_b (A : Option Addr) (cap : Nat) (l : List Vtx) (ox oy nx ny : Int) (w : World) (ha : Vts w A l) : Calls Tryz.prog 137 #[.slice A l.length cap, .agg #[.int .i64 ox, .int .i64 oy], .agg #[.int .i64 nx, .int .i64 ny]] w (VtxR w (hpl l ox oy nx ny)) := by
  by_cases h : l.length = 2
  · obtain ⟨v, u, rfl⟩ := len_2 h
    exact rhalf2_b A cap v u ox oy nx ny w ha
  · rw [hpl_not h]
    have n1 : ((l.length : Int) != 2) = true := by rw [bne_iff_ne]; omega
    clear h
    go_enter Tryz.func137, Tryz.ntmps137
    go_wp2_with fail
    go_ret
    exact ⟨⟨none, 0, rfl, by simp, by decide, .inl rfl, fun _ => rfl⟩, bBel⟩

theorem vtxr_ex {P : Program} {f : FuncId} {args : Array Value} {w : World} {R : List Vtx} (h : Calls P f args w (VtxR w R)) : Calls P f args w fun e w' => (∃ A' cap', e = .returned (.slice A' R.length cap') ∧ R.length ≤ cap' ∧ cap' ≤ maxLen ∧ Vts w' A' R ∧ (A' = none → cap' = 0)) ∧ ∃ q, w' = gw w q := gw_ex h
theorem hunit_in (c l : Int) : -536870911 ≤ unit c l ∧ unit c l ≤ 536870911 := by
  unfold unit
  split
  · omega
  · rw [← quo_sat]; exact ⟨sat_ge _, sat_le _⟩
theorem eDir_in (ps : List Pt) (i : Int) : (-536870911 ≤ (eDir ps i).1 ∧ (eDir ps i).1 ≤ 536870911) ∧ -536870911 ≤ (eDir ps i).2 ∧ (eDir ps i).2 ≤ 536870911 := by
  unfold eDir
  split
  · exact ⟨hunit_in _ _, hunit_in _ _⟩
  · decide
theorem toE_not {ps qs : List Pt} {i k : Int} (h : ¬ (eOK ps i ∧ eOK qs k)) : toE ps i qs k = [] := if_neg h

set_option maxHeartbeats 4000000 in
theorem rtoe0_b (A B_ : Option Addr) (ca cb : Nat) (ps qs : List (Int × Int)) (i k : Int) (h : ¬ (eOK ps i ∧ eOK qs k)) (w : World) : Calls Tryz.prog 104 #[.slice A ps.length ca, .int .i64 i, .slice B_ qs.length cb, .int .i64 k] w (VtxR w []) := by
  have hc : (ps.length : Int) < 2 ∨ (¬ (ps.length : Int) < 2 ∧ (qs.length : Int) < 2) ∨ (¬ (ps.length : Int) < 2 ∧ ¬ (qs.length : Int) < 2 ∧ i < 0) ∨ (¬ (ps.length : Int) < 2 ∧ ¬ (qs.length : Int) < 2 ∧ ¬ i < 0 ∧ (ps.length : Int) ≤ i) ∨ (¬ (ps.length : Int) < 2 ∧ ¬ (qs.length : Int) < 2 ∧ ¬ i < 0 ∧ ¬ (ps.length : Int) ≤ i ∧ k < 0) ∨ (¬ (ps.length : Int) < 2 ∧ ¬ (qs.length : Int) < 2 ∧ ¬ i < 0 ∧ ¬ (ps.length : Int) ≤ i ∧ ¬ k < 0 ∧ (qs.length : Int) ≤ k) := by unfold eOK at h; omega
  clear h
  rcases hc with c | ⟨c, d⟩ | ⟨c, d, f⟩ | ⟨c, d, f, g⟩ | ⟨c, d, f, g, h⟩ | ⟨c, d, f, g, h, j⟩
  all_goals
    go_enter Tryz.func104, Tryz.ntmps104
    go_wp2_with fail
    go_ret
    exact ⟨⟨none, 0, rfl, by simp, by decide, .inl rfl, fun _ => rfl⟩, bBel⟩

theorem mod_next {n k : Nat} (h : 0 < n) : ((k : Int) + 1).tmod (n : Int) = (((k + 1) % n : Nat) : Int) := by
  rw [show (k : Int) + 1 = ((k + 1 : Nat) : Int) from by omega]; first | exact (Int.ofNat_tmod _ _).symm | exact (Int.natCast_tmod _ _).symm | (rw [Int.tmod_eq_emod_of_nonneg (by omega)]; exact (Int.natCast_emod _ _).symm)

set_option maxRecDepth 100000 in
set_option maxHeartbeats 8000000 in
theorem rtoe1_b (A B_ : Option Addr) (ca cb : Nat) (ps qs : List (Int × Int)) (i k : Nat) (h1 : eOK ps i) (h2 : eOK qs k) (hl : ps.length ≤ 4611686018427387904) (hm : qs.length ≤ 4611686018427387904) (w : World) (ha : Pts w A ps) (hb : Pts w B_ qs) : Calls Tryz.prog 104 #[.slice A ps.length ca, .int .i64 (i : Int), .slice B_ qs.length cb, .int .i64 (k : Int)] w (VtxR w (toE ps i qs k)) := by
  have cD := fun w' h => rdir_b A ca ps (i : Int) hl w' h
  have hD := eDir_in ps (i : Int)
  obtain ⟨p2, p0, p1⟩ := h1
  obtain ⟨q2, q0, q1⟩ := h2
  obtain ⟨R, hR⟩ : ∃ R, Hid (toE ps i qs k = R) := ⟨_, rfl⟩
  rw [hR.out]
  have hR2 : Hid (hpl (hpl [⟨(hp' qs k).1, (hp' qs k).2, 0⟩, ⟨(hp' qs (k + 1)).1, (hp' qs (k + 1)).2, 1⟩] (hp' ps (i + 1)).1 (hp' ps (i + 1)).2 (eDir ps i).1 (eDir ps i).2) (hp' ps i).1 (hp' ps i).2 (-(eDir ps i).1) (-(eDir ps i).2) = R) := by
    have := hR.out; unfold toE at this; rw [if_pos ⟨⟨p2, p0, p1⟩, q2, q0, q1⟩] at this; exact this
  clear hR
  have hi : i < ps.length := by omega
  have hk : k < qs.length := by omega
  have n1 : ¬ (ps.length : Int) < 2 := by omega
  have n2 : ¬ (qs.length : Int) < 2 := by omega
  have n3 : ¬ (i : Int) < 0 := by omega
  have n4 : ¬ (ps.length : Int) ≤ (i : Int) := by omega
  have n5 : ¬ (k : Int) < 0 := by omega
  have n6 : ¬ (qs.length : Int) ≤ (k : Int) := by omega
  have hmi := mod_next (k := i) (show 0 < ps.length by omega)
  have hmk := mod_next (k := k) (show 0 < qs.length by omega)
  have hz1 : ((ps.length : Int) == 0) = false := by rw [beq_eq_false_iff_ne]; omega
  have hz2 : ((qs.length : Int) == 0) = false := by rw [beq_eq_false_iff_ne]; omega
  have mi := Nat.mod_lt (i + 1) (show 0 < ps.length by omega)
  have mk := Nat.mod_lt (k + 1) (show 0 < qs.length by omega)
  obtain ⟨b, off, rfl, hc⟩ := pts_open0 ha (by omega)
  obtain ⟨b', off', rfl, hc'⟩ := pts_open0 hb (by omega)
  have hR3 := hR2.out
  rw [← hp_mod ps (i + 1), ← hp_mod qs (k + 1)] at hR3
  clear hR2
  generalize (i + 1) % ps.length = ni at *
  generalize (k + 1) % qs.length = nk at *
  rw [hp_get hi, hp_get hk, hp_get mi, hp_get mk] at hR3
  obtain ⟨d0, d1⟩ := hc i hi
  obtain ⟨d2, d3⟩ := hc ni mi
  obtain ⟨f0, f1⟩ := hc' k hk
  obtain ⟨f2, f3⟩ := hc' nk mk
  have od := older_of_cell d0
  have of := older_of_cell f0
  have x0 : (0 : Int) ≤ (ni : Int) := by omega
  have x1 : (ni : Int) < (ps.length : Int) := by omega
  have x2 : (0 : Int) ≤ (nk : Int) := by omega
  have x3 : (nk : Int) < (qs.length : Int) := by omega
  have x4 : (0 : Int) ≤ (i : Int) := by omega
  have x5 : (i : Int) < (ps.length : Int) := by omega
  have x6 : (0 : Int) ≤ (k : Int) := by omega
  have x7 : (k : Int) < (qs.length : Int) := by omega
  have hcI := hc i hi
  clear hc hc' p0 p1 p2 q0 q1 q2
  generalize ps[i].1 = ax at *
  generalize ps[i].2 = ay at *
  generalize ps[ni].1 = bx at *
  generalize ps[ni].2 = b_y at *
  generalize qs[k].1 = cx at *
  generalize qs[k].2 = cy at *
  generalize qs[nk].1 = dx at *
  generalize qs[nk].2 = dy at *
  generalize (eDir ps (i : Int)).1 = u at *
  generalize (eDir ps (i : Int)).2 = v at *
  have cH1 : ∀ m w', Vts w' (some ⟨m, 0, none⟩) [⟨cx, cy, 0⟩, ⟨dx, dy, 1⟩] → Calls Tryz.prog 137 #[.slice (some ⟨m, 0, none⟩) 2 2, .agg #[.int .i64 bx, .int .i64 b_y], .agg #[.int .i64 u, .int .i64 v]] w' (VtxR w' (hpl [⟨cx, cy, 0⟩, ⟨dx, dy, 1⟩] bx b_y u v)) := fun m w' h => rhalf_b (some ⟨m, 0, none⟩) 2 [⟨cx, cy, 0⟩, ⟨dx, dy, 1⟩] bx b_y u v w' h
  have cH2 := fun A' cap' w' h => rhalf_b A' cap' (hpl [⟨cx, cy, 0⟩, ⟨dx, dy, 1⟩] bx b_y u v) ax ay (-u) (-v) w' h
  rw [hR3] at cH2
  clear hR3
  generalize hpl [⟨cx, cy, 0⟩, ⟨dx, dy, 1⟩] bx b_y u v = R1 at *
  obtain ⟨⟨hD1, hD2⟩, hD3, hD4⟩ := hD
  go_enter Tryz.func104, Tryz.ntmps104
  go_wp2_with fail
  refine wp_region_gw_tail 14 (by kernel_rfl) (by kernel_rfl) ?_
  simp only [List.take_succ_cons, List.take_zero, List.drop_succ_cons, List.drop_zero]
  repeat (go_big_quiet_step (fail))
  refine wpQuiet_nil ?_
  intro w1 hw1
  obtain ⟨q, rfl⟩ := hw1
  refine list_nm ?_
  intro X hX
  have hbX : Below w.heap.size w X := by rw [hX]; exact bBel
  clear hX
  have hszX := hbX.size
  have lt := World.block_lt_of_cell? w ⟨b, off + i * 2, none⟩ d0
  replace d0 := (hbX.cell (p := ⟨b, off + i * 2, none⟩) lt).trans d0
  replace d1 := (hbX.cell (p := ⟨b, off + i * 2 + 1, none⟩) lt).trans d1
  replace d2 := (hbX.cell (p := ⟨b, off + ni * 2, none⟩) lt).trans d2
  replace d3 := (hbX.cell (p := ⟨b, off + ni * 2 + 1, none⟩) lt).trans d3
  replace od := older_of_cell d0
  clear hcI f0 f1 f2 f3 of lt
  go_wp2_with (go_at_call 136; refine Calls.mono (gw_at (cD _ (Pts.to ha bBel))) ?_; rintro e w1 ⟨rfl, q, rfl⟩)
  refine wp_named ?_
  intro V hV
  have kS : blk V X.heap.size #[.int .i64 cx, .int .i64 cy, .int .i64 0, .int .i64 dx, .int .i64 dy, .int .i64 1] 109 := by rw [hV]; exact bBkn
  have kN : blk V (X.heap.size + 1 + q.os.size) #[.int .i64 u, .int .i64 v] 27 := by rw [hV]; exact bBkn
  have hbV : Below X.heap.size X V := by rw [hV]; exact bBel
  have hbV2 : Below w.heap.size w V := by rw [hV]; exact bBel
  clear hV
  have lt := World.block_lt_of_cell? X ⟨b, off + i * 2, none⟩ d0
  replace d0 := (hbV.cell (p := ⟨b, off + i * 2, none⟩) lt).trans d0
  replace d1 := (hbV.cell (p := ⟨b, off + i * 2 + 1, none⟩) lt).trans d1
  replace d2 := (hbV.cell (p := ⟨b, off + ni * 2, none⟩) lt).trans d2
  replace d3 := (hbV.cell (p := ⟨b, off + ni * 2 + 1, none⟩) lt).trans d3
  replace od := older_of_cell d0
  clear lt cD hbV hbX hszX
  have hszV := hbV2.size
  generalize X.heap.size + 1 + q.os.size = n at *
  generalize X.heap.size = m at *
  have hS : Vts V (some ⟨m, 0, none⟩) [⟨cx, cy, 0⟩, ⟨dx, dy, 1⟩] := vts_two kS
  have cS := fun w' (h : Below V.heap.size V w') => cH1 m w' (Vts.to hS h)
  clear cH1 hS kS
  have okN := blk_older kN
  have ckN_0 : _ = some _ := blk_cell kN 0
  have ckN_1 : _ = some _ := blk_cell kN 1
  have fkN_0 := blk_free kN 0
  have fkN_1 := blk_free kN 1
  first
    | (refine wp_mix 16 [0, 0, 3, 7, 15, 0, 0, 64, 0, 256, 960, 2016, 4064, 8160, 16383, 32767] [] [0, 1, 2, 3, 4, 5, 6, 7, 8, 9, 10, 11, 12, 13, 14, 15] (by kernel_rfl) (by decide +kernel) ?_
       repeat (first | (refine mix_skip (by rfl) (by rfl) (by rfl) (by rfl) ?_) | (refine mix_early (by rfl) (by rfl) (by rfl) ?_; go_big_quiet_step (fail); with_reducible refine wpQuiet_nil ?_) | (refine mix_late (by rfl) (by rfl) (by rfl) ?_; go_big_quiet_step (fail); with_reducible refine wpQuiet_nil ?_) | (refine mix_call (by rfl) (by rfl) (by rfl) ?_; intro pM Qs hQs; go_wp2_with (first | (go_at_call 137; with_reducible_and_instances refine Calls.mono (vtxr_ex (cS _ bBel)) ?_; rintro e w1 ⟨⟨A1, k1, rfl, hle1, hmx1, hV1, hnil1⟩, q1, rfl⟩) | (go_at_call 137; with_reducible_and_instances refine Calls.mono (vtxr_ex (cH2 _ _ _ (Vts.to hV1 bBel))) ?_; rintro e w1 ⟨⟨A2, k2, rfl, hle2, hmx2, hV2, hnil2⟩, q2, rfl⟩)); refine hQs _ _ bBel ?_))
       refine mix_end ?_
       intro pE
       simp only [List.drop_succ_cons, List.drop_zero])
    | (refine wp_mix 24 [0, 0, 0, 4, 0, 16, 60, 126, 254, 0, 1023, 0, 0, 6144, 14336, 0, 32768, 98304, 0, 262144, 786432, 2064384, 4194303, 8388607] [] [0, 1, 2, 3, 4, 5, 6, 7, 8, 9, 10, 11, 12, 13, 14, 15, 16, 17, 18, 19, 20, 21, 22, 23] (by kernel_rfl) (by decide +kernel) ?_
       repeat (first | (refine mix_skip (by rfl) (by rfl) (by rfl) (by rfl) ?_) | (refine mix_early (by rfl) (by rfl) (by rfl) ?_; go_big_quiet_step (fail); with_reducible refine wpQuiet_nil ?_) | (refine mix_late (by rfl) (by rfl) (by rfl) ?_; go_big_quiet_step (fail); with_reducible refine wpQuiet_nil ?_) | (refine mix_call (by rfl) (by rfl) (by rfl) ?_; intro pM Qs hQs; go_wp2_with (first | (go_at_call 137; with_reducible_and_instances refine Calls.mono (vtxr_ex (cS _ bBel)) ?_; rintro e w1 ⟨⟨A1, k1, rfl, hle1, hmx1, hV1, hnil1⟩, q1, rfl⟩) | (go_at_call 137; with_reducible_and_instances refine Calls.mono (vtxr_ex (cH2 _ _ _ (Vts.to hV1 bBel))) ?_; rintro e w1 ⟨⟨A2, k2, rfl, hle2, hmx2, hV2, hnil2⟩, q2, rfl⟩)); refine hQs _ _ bBel ?_))
       refine mix_end ?_
       intro pE
       simp only [List.drop_succ_cons, List.drop_zero])
  go_wp2_with fail
  go_ret
  exact ⟨⟨_, _, rfl, hle2, hmx2, Vts.to hV2 bBel, hnil2⟩, bBel⟩

theorem rtoe_b (A B_ : Option Addr) (ca cb : Nat) (ps qs : List (Int × Int)) (i k : Int) (hl : ps.length ≤ 4611686018427387904) (hm : qs.length ≤ 4611686018427387904) (w : World) (ha : Pts w A ps) (hb : Pts w B_ qs) : Calls Tryz.prog 104 #[.slice A ps.length ca, .int .i64 i, .slice B_ qs.length cb, .int .i64 k] w (VtxR w (toE ps i qs k)) := by
  by_cases h : eOK ps i ∧ eOK qs k
  · obtain ⟨i', rfl⟩ : ∃ i' : Nat, i = (i' : Int) := ⟨i.toNat, by have := h.1; unfold eOK at this; omega⟩
    obtain ⟨k', rfl⟩ : ∃ k' : Nat, k = (k' : Int) := ⟨k.toNat, by have := h.2; unfold eOK at this; omega⟩
    exact rtoe1_b A B_ ca cb ps qs i' k' h.1 h.2 hl hm w ha hb
  · rw [toE_not h]; exact rtoe0_b A B_ ca cb ps qs i k h w

end Go.Proofs.YtiecpebckmihgaaGreat
