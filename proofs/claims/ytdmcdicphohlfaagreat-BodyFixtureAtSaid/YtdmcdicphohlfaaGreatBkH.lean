/- Chapter 23: impulses, the program's. -/
import Derived.Test.YtdmcdicphohlfaaGreatBkE
import Derived.Test.YtdmcdicphohlfaaGreatBkF
set_option linter.unusedVariables false
set_option linter.unusedSimpArgs false
namespace Go.Proofs.YtdmcdicphohlfaaGreat
open Go.RowKit Fx Go.Maps

def BdQ (w : World) (b : Bdy) (e : Ending) (w' : World) : Prop := (∃ b9 : Bdy, e = .returned (.agg (bdc b9).toArray) ∧ Hid (bd0 b9 = bd0 b) ∧ FxNew w' w.heap.size (.slice b9.A b9.fs.length b9.cap) b9.fs) ∧ Below w.heap.size w w'
theorem BdR.q {w : World} {b : Bdy} {e : Ending} {w' : World} (h : BdR w b e w') : BdQ w b e w' := by
  obtain ⟨⟨A, cap, fs, he, hm, hn⟩, hb⟩ := h
  exact ⟨⟨{ b with A := A, cap := cap, fs := fs }, he, bd0_with hm, hn⟩, hb⟩
theorem new_in {w : World} {B : Nat} {b : Bdy} (h : FxNew w B (.slice b.A b.fs.length b.cap) b.fs) : BdIn w b := by
  obtain ⟨A, cap, e, h1, h2, h3, h4⟩ := h.mem
  have e1 : b.A = A := by simpa using congrArg (fun v => match v with | Value.slice a _ _ => a | _ => none) e
  have e2 : b.cap = cap := by simpa using congrArg (fun v => match v with | Value.slice _ _ c => c | _ => 0) e
  subst e1 e2
  exact ⟨h1, h2, h3, h4⟩
theorem bd0_fs {a b : Bdy} (h : bd0 a = bd0 b) : a.fs.map fx0 = b.fs.map fx0 := congrArg Bdy.fs h
theorem fx0_ps {l m : List Fxr} (h : l.map fx0 = m.map fx0) : ∀ f ∈ l, ∃ g ∈ m, g.ps = f.ps := fun f hf => by
  have : fx0 f ∈ m.map fx0 := h ▸ List.mem_map_of_mem hf
  obtain ⟨g, hg, e⟩ := List.mem_map.1 this
  exact ⟨g, hg, by show (fx0 g).ps = (fx0 f).ps; rw [e]⟩
theorem okL_eq {a b : Bdy} (h : bd0 a = bd0 b) (ho : okL b) : okL a := by
  refine ⟨by rw [map_len (bd0_fs h)]; exact ho.1, fun f hf => ?_⟩
  obtain ⟨g, hg, e⟩ := fx0_ps (bd0_fs h) f hf
  rw [← e]; exact ho.2 g hg
theorem pcloq_b (b : Bdy) (w : World) (ho : okL b) (h : BdIn w b) : Calls Tryz.prog 41 #[.agg (bdc b).toArray] w (BdQ w b) := Calls.mono (pclo_b b w ho h) fun _ _ h => h.q
theorem bdc_vel (b : Bdy) (x y a : Int) : (((bdc b).toArray.setIfInBounds 5 (.int .i64 x)).setIfInBounds 6 (.int .i64 y)).setIfInBounds 7 (.int .i64 a) = (bdc { b with vx := x, vy := y, av := a }).toArray := by simp [bdc]
theorem bdc_awk (b : Bdy) (x y a : Int) : (((((bdc b).toArray.setIfInBounds 5 (.int .i64 x)).setIfInBounds 6 (.int .i64 y)).setIfInBounds 7 (.int .i64 a)).setIfInBounds 17 (.bool false)).setIfInBounds 18 (.int .i64 0) = (bdc { b with vx := x, vy := y, av := a, asl := false, idl := 0 }).toArray := by simp [bdc]
theorem bd0_vel {a b : Bdy} (h : bd0 a = bd0 b) (x y v : Int) : bd0 { a with vx := x, vy := y, av := v } = bd0 { b with vx := x, vy := y, av := v } := by
  have : bd0 { a with vx := x, vy := y, av := v } = { bd0 a with vx := x, vy := y, av := v } := rfl
  rw [this, h]; rfl
theorem bd0_awk {a b : Bdy} (h : bd0 a = bd0 b) (x y v : Int) : bd0 { a with vx := x, vy := y, av := v, asl := false, idl := 0 } = bd0 { b with vx := x, vy := y, av := v, asl := false, idl := 0 } := by
  have : bd0 { a with vx := x, vy := y, av := v, asl := false, idl := 0 } = { bd0 a with vx := x, vy := y, av := v, asl := false, idl := 0 } := rfl
  rw [this, h]; rfl
theorem bd0_clB {a b : Bdy} (h : bd0 a = bd0 b) : bd0 (clB a) = bd0 (clB b) := by
  have e1 : a.vx = b.vx := (by show (bd0 a).vx = (bd0 b).vx; rw [h])
  have e2 : a.vy = b.vy := (by show (bd0 a).vy = (bd0 b).vy; rw [h])
  have e3 : a.av = b.av := (by show (bd0 a).av = (bd0 b).av; rw [h])
  unfold clB; rw [e1, e2, e3]; exact bd0_vel h _ _ _

set_option maxRecDepth 100000 in
set_option maxHeartbeats 16000000 in
theorem pcl_b (b : Bdy) (w : World) (ho : okL b) (hIn : BdIn w b) : Calls Tryz.prog 34 #[.agg (bdc b).toArray] w (BdQ w (clB b)) := by
  have cC := fun w' h => pcloq_b b w' ho h
  have cX := fun w' => clamp_b b.vx (-16777216) 16777216 w'
  have cY := fun w' => clamp_b b.vy (-16777216) 16777216 w'
  have cA := fun w' => clamp_b b.av (-4194304) 4194304 w'
  have hcl : Hid (clB b = { b with vx := clamp b.vx (-16777216) 16777216, vy := clamp b.vy (-16777216) 16777216, av := clamp b.av (-4194304) 4194304 }) := rfl
  clear ho
  generalize clamp b.vx (-16777216) 16777216 = X at *
  generalize clamp b.vy (-16777216) 16777216 = Y0 at *
  generalize clamp b.av (-4194304) 4194304 = A0 at *
  go_enter Tryz.func34, Tryz.ntmps34
  go_upto_region 1 with fail
  refine wp_named ?_
  intro V hV
  have kb : blk V (w.heap.size) (bdc b).toArray 29 := by rw [hV]; exact bBkn
  have kR : blk V (w.heap.size + 1) #[.int .i64 0, .int .i64 0, .int .i64 0, .int .i64 0, .int .i64 0, .int .i64 0, .int .i64 0, .int .i64 0, .int .i64 0, .int .i64 0, .int .i64 0, .int .i64 0, .int .i64 0, .int .i64 0, .bool false, .bool false, .bool false, .bool false, .int .i64 0, .slice none 0 0] 29 := by rw [hV]; exact bBkn
  have hbV : Below w.heap.size w V := by rw [hV]; exact bBel
  clear hV
  have hszV := hbV.size
  have ob := blk_older kb
  obtain ⟨cb0, cb1, cb2, cb3, cb4, cb5, cb6, cb7, cb8, cb9, cb10, cb11, cb12, cb13, cb14, cb15, cb16, cb17, cb18, cb19⟩ := bd_cells kb
  have oR := blk_older kR
  have hInV : BdIn V b := hIn.to hbV
  have hQb : Hid (∀ w', Below V.heap.size V w' → w'.rangeAt (w.heap.size) 0 (bdc b)) := fun w' h' => rng_blk23 (blk_below h' kb)
  go_upto_region 2 with (first | (refine wpList_load_g (by rfl) 29 _ rfl (w.heap.size) 0 rfl _ _ (hQb.out _ bBel) Tryz.underlying29 rfl (bd_sizeC b) ?_) | (go_at_call 41; refine Calls.mono (cC V hInV) ?_; rintro e U ⟨⟨b9, rfl, hs9, hN⟩, hbU⟩) | (refine wpList_store_wide rfl 29 _ _ rfl (U.heap.size) (bdc b9) rfl rfl _ _ bBkn (by kernel_rfl) (bd_sizeC b9) (bd_all b9) ?_; intro Y kY hbY koY hzY))
  have hszU := hbU.size
  have hbUY : Below U.heap.size U Y := hbY _ _ (Nat.le_refl _) bBel
  have hbVY : Below V.heap.size V Y := Below.trans hbU (hbUY.mono hszU)
  have hNY := hN.to hbUY
  have hPY : U.heap.size < Y.heap.size := blk_lt kY
  have kRY := blk_below hbVY kR
  have hbwY : Below w.heap.size w Y := Below.trans hbV (hbVY.mono hszV)
  have hlb := blk_lt kb
  have hlR := blk_lt kR
  have hInY := hInV.to hbVY
  have kbY := blk_below hbVY kb
  obtain ⟨P, hP⟩ : ∃ P, U.heap.size = P := ⟨_, rfl⟩
  rw [hP] at hszU hbUY hPY kY
  have hPH : Hid (U.heap.size = P) := hP
  rw [hP]
  clear hP
  clear cb0 cb1 cb2 cb3 cb4 cb5 cb6 cb7 cb8 cb9 cb10 cb11 cb12 cb13 cb14 cb15 cb16 cb17 cb18 cb19 ob oR hQb hbU hbY koY hzY hInV hInY kb kR hIn cC hNY
  have oY := blk_older kY
  have oB := blk_older kbY
  have hszY := hbwY.size
  obtain ⟨cb0, cb1, cb2, cb3, cb4, cb5, cb6, cb7, cb8, cb9, cb10, cb11, cb12, cb13, cb14, cb15, cb16, cb17, cb18, cb19⟩ := bd_cells kbY
  obtain ⟨dY0, dY1, dY2, dY3, dY4, dY5, dY6, dY7, dY8, dY9, dY10, dY11, dY12, dY13, dY14, dY15, dY16, dY17, dY18, dY19⟩ := bd_cells kY
  have fY5 := blk_free kY 5
  have fY6 := blk_free kY 6
  have fY7 := blk_free kY 7
  simp only [Act.put]
  go_upto_region 5 with (first | (go_at_call 91; with_reducible_and_instances refine Calls.mono (gw_at (cX _)) ?_; rintro e w1 ⟨rfl, q1, rfl⟩) | (go_at_call 91; with_reducible_and_instances refine Calls.mono (gw_at (cY _)) ?_; rintro e w1 ⟨rfl, q2, rfl⟩) | (go_at_call 91; with_reducible_and_instances refine Calls.mono (gw_at (cA _)) ?_; rintro e w1 ⟨rfl, q3, rfl⟩))
  refine wp_named ?_
  intro Z hZ
  have kZ : blk Z P (bdc { b9 with vx := X, vy := Y0, av := A0 }).toArray 29 := by rw [hZ, ← bdc_vel]; exact (by apply blk_of; (repeat (first | with_reducible exact kY | with_reducible apply blk_drew | with_reducible apply blk_gw | with_reducible apply blk_alloc | with_reducible apply blk_set | ((with_reducible apply blk_other); focus omega))); (first | rfl | simp))
  have kRZ : blk Z (w.heap.size + 1) #[.int .i64 0, .int .i64 0, .int .i64 0, .int .i64 0, .int .i64 0, .int .i64 0, .int .i64 0, .int .i64 0, .int .i64 0, .int .i64 0, .int .i64 0, .int .i64 0, .int .i64 0, .int .i64 0, .bool false, .bool false, .bool false, .bool false, .int .i64 0, .slice none 0 0] 29 := by rw [hZ]; exact (by apply blk_of; (repeat (first | with_reducible exact kRY | with_reducible apply blk_drew | with_reducible apply blk_gw | with_reducible apply blk_alloc | with_reducible apply blk_set | ((with_reducible apply blk_other); focus omega))); (first | rfl | simp))
  have hbZ : Below w.heap.size w Z := by rw [hZ]; exact bBel
  have hbPZ : Below P U Z := by rw [hZ]; exact bBel
  have hNZ := hN.to (hPH.out.symm ▸ hbPZ)
  clear hZ hbPZ hN hbUY kY kRY hbVY hbwY hszY cb0 cb1 cb2 cb3 cb4 cb5 cb6 cb7 cb8 cb9 cb10 cb11 cb12 cb13 cb14 cb15 cb16 cb17 cb18 cb19 dY0 dY1 dY2 dY3 dY4 dY5 dY6 dY7 dY8 dY9 dY10 dY11 dY12 dY13 dY14 dY15 dY16 dY17 dY18 dY19 fY5 fY6 fY7 oY oB kbY cX cY cA
  have hszZ := hbZ.size
  have hs : Hid (bd0 { b9 with vx := X, vy := Y0, av := A0 } = bd0 (clB b)) := by show _ = _; rw [hcl.out]; exact bd0_vel hs9.out _ _ _
  have hfx : Hid (({ b9 with vx := X, vy := Y0, av := A0 } : Bdy).A = b9.A ∧ ({ b9 with vx := X, vy := Y0, av := A0 } : Bdy).fs = b9.fs ∧ ({ b9 with vx := X, vy := Y0, av := A0 } : Bdy).cap = b9.cap) := ⟨rfl, rfl, rfl⟩
  generalize ({ b9 with vx := X, vy := Y0, av := A0 } : Bdy) = c9 at *
  rw [← hfx.out.1, ← hfx.out.2.1, ← hfx.out.2.2] at hNZ
  have oZ := blk_older kZ
  go_wp2_with (first
    | (refine wpList_load_mid rfl 29 _ rfl P 0 rfl _ _ (rng_blk23 kZ) Tryz.underlying29 rfl (bd_sizeC c9) ?_)
    | (refine wpList_store_wide rfl 29 _ _ rfl (w.heap.size + 1) (bdc c9) rfl rfl _ _ kRZ (by kernel_rfl) (bd_sizeC _) (bd_all _) ?_; intro E kE hbE koE hzE))
  refine bodyPost_ret (v := .agg (bdc c9).toArray) (res_wide Tryz.results34 rfl _ (rng_blk23 kE) Tryz.underlying29 rfl (bd_sizeC _)) rfl ⟨⟨c9, rfl, hs.out, ?_⟩, hbE _ _ (by omega) hbZ⟩
  exact (hNZ.keep fun g c t hg hk => koE g c t (by omega) hk).weaken hbV.size


end Go.Proofs.YtdmcdicphohlfaaGreat
