/- Chapter 23: copies of bodies. -/
import Derived.Test.YtdmcdicphohlfaaGreatBkD
import Derived.Great.BuildSlice
set_option linter.unusedVariables false
set_option linter.unusedSimpArgs false
namespace Go.Proofs.YtdmcdicphohlfaaGreat
open Go.RowKit Fx Go.Maps

theorem bdc_set19 (b : Bdy) (A : Option Addr) (cap : Nat) (fs : List Fxr) : (bdc b).toArray.setIfInBounds 19 (.slice A fs.length cap) = (bdc { b with A := A, cap := cap, fs := fs }).toArray := by simp [bdc]
theorem bdc_vx (b : Bdy) (x : Int) : (bdc b).toArray.setIfInBounds 5 (.int .i64 x) = (bdc { b with vx := x }).toArray := by simp [bdc]
theorem bdc_vy (b : Bdy) (x : Int) : (bdc b).toArray.setIfInBounds 6 (.int .i64 x) = (bdc { b with vy := x }).toArray := by simp [bdc]
theorem bdc_av (b : Bdy) (x : Int) : (bdc b).toArray.setIfInBounds 7 (.int .i64 x) = (bdc { b with av := x }).toArray := by simp [bdc]
theorem bdc_asl (b : Bdy) (x : Bool) : (bdc b).toArray.setIfInBounds 17 (.bool x) = (bdc { b with asl := x }).toArray := by simp [bdc]
theorem bdc_idl (b : Bdy) (x : Int) : (bdc b).toArray.setIfInBounds 18 (.int .i64 x) = (bdc { b with idl := x }).toArray := by simp [bdc]
theorem list_nm23 {P : Program} {ops : Array Oper} {Q : Exit → Act → World → Prop} {l : List Oper} {a : Act} {w : World} (h : ∀ W, W = w → wpList P ops Q l a W) : wpList P ops Q l a w := h w rfl
theorem owns_weak {w : World} {B C k n : Nat} {e : TypeId} {v : Value} {xs : List Value} (h : w.ownsRow B e k v n xs) (hc : C ≤ B) : w.ownsRow C e k v n xs := by
  obtain ⟨h1, h2 | ⟨g, cap, cur, e, hB, r⟩⟩ := h
  · exact ⟨h1, .inl h2⟩
  · exact ⟨h1, .inr ⟨g, cap, cur, e, Nat.le_trans hc hB, r⟩⟩
theorem owns_keep {w w' : World} {B k n : Nat} {e : TypeId} {v : Value} {xs : List Value} (h : w.ownsRow B e k v n xs) (hk : ∀ g c t, B ≤ g → blk w g c t → blk w' g c t) : w'.ownsRow B e k v n xs := by
  obtain ⟨h1, h2 | ⟨g, cap, cur, e, hB, hh, r⟩⟩ := h
  · exact ⟨h1, .inl h2⟩
  · exact ⟨h1, .inr ⟨g, cap, cur, e, hB, hk g cur _ hB hh, r⟩⟩
theorem owns_set23 {w : World} {B b i k n : Nat} {e : TypeId} {v u : Value} {xs : List Value} (h : w.ownsRow B e k v n xs) (hb : b < B) : (w.setCell ⟨b, i, none⟩ u).ownsRow B e k v n xs :=
  owns_keep h fun g c t hg hk => blk_other (by omega) hk
theorem FxNew.keep {w w' : World} {B : Nat} {v : Value} {fs : List Fxr} (h : FxNew w B v fs) (hk : ∀ g c t, B ≤ g → blk w g c t → blk w' g c t) : FxNew w' B v fs :=
  ⟨owns_keep h.1 hk, fun f hf => ⟨owns_keep (h.2 f hf).1 hk, (h.2 f hf).2⟩⟩
theorem FxNew.set {w : World} {B b i : Nat} {v u : Value} {fs : List Fxr} (h : FxNew w B v fs) (hb : b < B) : FxNew (w.setCell ⟨b, i, none⟩ u) B v fs :=
  h.keep fun g c t hg hk => blk_other (by omega) hk

def ShapeN (w : World) (K R : Int) (ps : List (Int × Int)) (e : Ending) (w' : World) : Prop := (∃ A' cap', e = .returned (.agg #[.int .i64 K, .int .i64 R, .slice A' ps.length cap']) ∧ w'.ownsRow w.heap.size 24 2 (.slice A' ps.length cap') ps.length (pv ps)) ∧ Below w.heap.size w w'

set_option maxHeartbeats 4000000 in
theorem yclo2_b (K R : Int) (A : Option Addr) (cap : Nat) (ps : List (Int × Int)) (hl : ps.length ≤ 1000000) (hlc : ps.length ≤ cap) (hA : A = none → cap = 0) (w : World) (hp : Pts w A ps) : Calls Tryz.prog 103 #[.agg #[.int .i64 K, .int .i64 R, .slice A ps.length cap]] w (ShapeN w K R ps) := by
  obtain ⟨i0, hi, hz0, hz1, hz2⟩ := info_parts info_vec
  go_enter Tryz.func103, Tryz.ntmps103
  go_upto_region 1 with fail
  refine wp_named ?_
  intro W hW
  have kB : blk W w.heap.size #[.int .i64 K, .int .i64 R, .slice A ps.length cap] 33 := by rw [hW]; exact bBkn
  have kR : blk W (w.heap.size + 1) #[.int .i64 0, .int .i64 0, .slice none 0 0] 33 := by rw [hW]; exact bBkn
  have hbW : Below w.heap.size w W := by rw [hW]; exact bBel
  have hzW : w.heap.size + 2 ≤ W.heap.size := by rw [hW]; simp
  clear hW
  have hP : Pts W A ps := Pts.to hp hbW
  have okB := blk_older kB
  have ckB_0 : _ = some _ := blk_cell kB 0
  have ckB_1 : _ = some _ := blk_cell kB 1
  have ckB_2 : _ = some _ := blk_cell kB 2
  have fkB_0 := blk_free kB 0
  have fkB_1 := blk_free kB 1
  have fkB_2 := blk_free kB 2
  have okR := blk_older kR
  have ckR_0 : _ = some _ := blk_cell kR 0
  have ckR_1 : _ = some _ := blk_cell kR 1
  have ckR_2 : _ = some _ := blk_cell kR 2
  have fkR_0 := blk_free kR 0
  have fkR_1 := blk_free kR 1
  have fkR_2 := blk_free kR 2
  go_wp2_with (at_builtin; refine wpList_appQ rfl _ _ 31 rfl W.heap.size 24 i0 (.agg #[.int .i64 0, .int .i64 0]) 16 Tryz.underlying31 hi hz0 hz1 hz2 rfl _ 0 [] rfl (World.ownsRow_nil _ _ _ 2) A ps.length cap ps rfl hA rfl hP (by unfold maxLen; omega) (by omega) (Nat.le_refl _) ?_; intro v5 w5 hown5 hb5; have hown6 : w5.ownsRow W.heap.size 24 2 v5 ps.length (pv ps) := (by simpa using hown5); obtain ⟨A5, c5, rfl, hle5, hmx5, hnil5, hP5, hfr5⟩ := own_fresh (ps := ps) hown6; clear hown5; obtain ⟨q5, rfl⟩ := gw_of_below hb5; clear hb5)
  refine post_named ?_
  intro Z hZ
  have kZ : blk Z (w.heap.size + 1) #[.int .i64 K, .int .i64 R, .slice A5 ps.length c5] 33 := by rw [hZ]; exact (by apply blk_of; (repeat (first | with_reducible exact kR | with_reducible apply blk_drew | with_reducible apply blk_gw | with_reducible apply blk_alloc | with_reducible apply blk_set | ((with_reducible apply blk_other); focus omega))); (first | rfl | simp))
  have hbZ : Below w.heap.size w Z := by rw [hZ]; exact bBel
  have hoZ : Z.ownsRow w.heap.size 24 2 (.slice A5 ps.length c5) ps.length (pv ps) := by
    rw [hZ]
    refine owns_weak (B := W.heap.size) ?_ (by omega)
    refine owns_keep hown6 fun g c t hg hk => blk_sm ?_ hk
    repeat (first | exact sm_refl _ _ | refine sm_gw ?_ | refine sm_set ?_ (by omega))
  clear hZ
  have okZ := blk_older kZ
  have ckZ_0 : _ = some _ := blk_cell kZ 0
  have ckZ_1 : _ = some _ := blk_cell kZ 1
  have ckZ_2 : _ = some _ := blk_cell kZ 2
  have fkZ_0 := blk_free kZ 0
  have fkZ_1 := blk_free kZ 1
  have fkZ_2 := blk_free kZ 2
  exact bodyPost_ret (v := .agg #[.int .i64 K, .int .i64 R, .slice A5 ps.length c5]) (by simp [results, Tryz.results103, go_sem, ckZ_0, ckZ_1, ckZ_2]) rfl ⟨⟨A5, c5, rfl, hoZ⟩, hbZ⟩

set_option maxRecDepth 100000 in
set_option maxHeartbeats 8000000 in
theorem bs_fx (f : Fxr) (w : World) : (Instr.buildSlice 27 1 #[(0, .agg (fxc f).toArray)]).run Tryz.prog w = .ok (.slice (some ⟨w.heap.size, 0, none⟩) 1 1) (w.alloc (.cells (fxc f).toArray 35)) := by
  obtain ⟨i0, hi, hz0, hz1, hz2⟩ := info_parts info_fx
  refine run_buildSlice w 27 35 1 _ _ i0 _ Tryz.underlying27 hi hz0 (by rw [hz1]; decide) (by rw [hz1]; decide) ?_
  rw [hz1]
  obtain ⟨K, R, A, cap, ps, fD, fF, fE, sen, c1, m1, g1⟩ := f
  kernel_rfl

theorem wpList_bsF {ops : Array Oper} {rest : List Oper} {o : Oper} {act : Act} {w : World} {Q : Exit → Act → World → Prop} (hg : o.guard = none) (x : Operand) (ho : o.op = .buildSlice 27 1 #[(0, x)]) (f : Fxr) (hx : act.eval x = .agg (fxc f).toArray)
    (h : wpList Tryz.prog ops Q rest (act.put o.dst (.slice (some ⟨w.heap.size, 0, none⟩) 1 1)) (w.alloc (.cells (fxc f).toArray 35))) : wpList Tryz.prog ops Q (o :: rest) act w := by
  refine wpList_plain hg fun K hK => ?_
  have e : ((#[(0, x)] : Array (Nat × Operand)).map fun (i, x) => (i, act.eval x)) = #[(0, .agg (fxc f).toArray)] := by
    simp [hx]
  unfold Oper.wp execOp
  simp only [ho, e, Sem.run_bind, bs_fx, Result.andThen_ok]
  exact hK _ _ h

theorem res_wide {P : Program} {fn : Func} {x : Nat} {ty : TypeId} {d : TypeDesc} {tmps : Array Value} {w : World} {b : Nat} (hf : fn.results = #[.cell x ty]) (hx : tmps.getD x undef = .pointer (some ⟨b, 0, none⟩)) (cs : List Value) (hc : w.rangeAt b 0 cs) (hu : P.underlying ty = some d) (hd : d.isRow = true) (hi : (P.info? ty).map (·.size) = some cs.length) : (results fn tmps).run P w = .ok (.agg cs.toArray) w := by
  have hload := run_loadVar_mid w b 0 ty cs d hc hu hd hi
  unfold results
  rw [hf]
  simp only [List.mapM_toArray, List.mapM_cons, List.mapM_nil, Sem.run_bind, Sem.run_pure, Result.andThen_ok, hx, asAddr, hload, Array.mapM_eq_mapM_toList]
  simp [Sem.run_bind, Sem.run_pure, Result.andThen_ok, hload]

set_option maxRecDepth 100000 in
set_option maxHeartbeats 16000000 in
theorem pclo_b (b : Bdy) (w : World) (ho : okL b) (h : BdIn w b) : Calls Tryz.prog 41 #[.agg (bdc b).toArray] w (BdR w b) := by
  obtain ⟨i0, hi, hz0, hz1, hz2⟩ := info_parts info_fx
  have ho' : Hid (∀ f ∈ b.fs, f.ps.length ≤ 1000000) := ho.2
  have hl := ho.1
  clear ho
  go_enter Tryz.func41, Tryz.ntmps41
  go_upto_region 2 with fail
  refine wp_named ?_
  intro W hW
  have kb : blk W (w.heap.size) (bdc b).toArray 29 := by rw [hW]; exact bBkn
  have kR : blk W (w.heap.size + 1) #[.int .i64 0, .int .i64 0, .int .i64 0, .int .i64 0, .int .i64 0, .int .i64 0, .int .i64 0, .int .i64 0, .int .i64 0, .int .i64 0, .int .i64 0, .int .i64 0, .int .i64 0, .int .i64 0, .bool false, .bool false, .bool false, .bool false, .int .i64 0, .slice none 0 0] 29 := by rw [hW]; exact bBkn
  have hbW : Below w.heap.size w W := by rw [hW]; exact bBel
  clear hW
  have hszW := hbW.size
  have ob := blk_older kb
  obtain ⟨cb0, cb1, cb2, cb3, cb4, cb5, cb6, cb7, cb8, cb9, cb10, cb11, cb12, cb13, cb14, cb15, cb16, cb17, cb18, cb19⟩ := bd_cells kb
  have oR := blk_older kR
  have hF : Fxs W b.A b.fs := (h.to hbW).1
  clear h
  generalize b.A = A0 at *
  have hzW := blk_lt kR
  go_wp2_with fail
  go_loopw [3, 9] (fun c i wr => ∃ (k : Nat) (fs : List Fxr), k ≤ b.fs.length ∧ i = .int .i64 (k : Int) ∧ Hid (fs.map fx0 = (b.fs.take k).map fx0) ∧ fs.length ≤ k ∧ FxNew wr W.heap.size c fs ∧ Below W.heap.size W wr) (fun _ i _ => b.fs.length - (intOf i).toNat)
  case atStart => exact ⟨0, [], by omega, rfl, rfl, Nat.le_refl _, FxNew.nil _ _, Below.refl _ _⟩
  case round =>
    obtain ⟨k, fs, hk, rfl, hm, hlf, hN, hbR⟩ := hrel
    have hszR := hbR.size
    have hbwR : Below w.heap.size w wr := Below.trans hbW (hbR.mono hszW)
    by_cases hlt : k < b.fs.length
    · have hltI : (k : Int) < (b.fs.length : Int) := by omega
      obtain ⟨b2, off2, rfl, hq, hr0⟩ := fxs_at23 hF hlt
      obtain ⟨og, hr⟩ := hr0 wr hbR
      have hps := ho'.out _ (List.getElem_mem hlt)
      have hm2 : Hid ((b.fs.take (k + 1)).map fx0 = (b.fs.take k).map fx0 ++ [fx0 b.fs[k]]) := by show _ = _; rw [← List.take_append_getElem hlt, List.map_append]; rfl
      have hPf := hq.2.1
      have hcf := hq.2.2
      clear hr0 hq
      generalize b.fs[k] = f at *
      have hrH : Hid (wr.rangeAt b2 (off2 + k * 10) (fxc f)) := hr
      clear hr
      go_upto_region 5 with (first
        | (refine wpList_load_mid rfl 35 _ rfl b2 (off2 + k * 10) rfl _ _ hrH.out Tryz.underlying35 rfl (fx_sizeC f) ?_)
        | (refine wpList_store_wide rfl 35 _ _ rfl wr.heap.size (fxc f) rfl rfl _ _ bBkn (by kernel_rfl) (fx_sizeC f) (fx_all f) ?_; intro V kV hbV koV hzV))
      have hbRV : Below wr.heap.size wr V := hbV _ _ (Nat.le_refl _) bBel
      have hlV := blk_lt kV
      have hbWV : Below W.heap.size W V := Below.trans hbR (hbRV.mono hszR)
      have hszV := hbWV.size
      have hNV := True.intro
      have hvo : ∀ g, u3.ownBlock = some g → g < wr.heap.size := fun g hg => owns_in hN.1 hg
      have hvoH : Hid (∀ g, u3.ownBlock = some g → g < wr.heap.size) := hvo
      clear hbV koV hzV hvo
      have oV := blk_older kV
      obtain ⟨v0, v1, v2, v3, v4, v5, v6, v7, v8, v9⟩ := fx_cells kV
      have cS := fun w' h => yclo2_b f.K f.R f.A f.cap f.ps hps hcf.2.1 hcf.1 w' h
      have hPV : Pts V f.A f.ps := Pts.to hPf hbWV
      simp only [Act.put]
      go_upto_region 6 with (go_at_call 103; refine Calls.mono (cS V hPV) ?_; rintro e U ⟨⟨A5, c5, rfl, hoU⟩, hbU⟩; have kU := blk_below hbU kV; have oU := blk_older kU; obtain ⟨x0, x1, x2, x3, x4, x5, x6, x7, x8, x9⟩ := fx_cells kU; have y0 := blk_free kU 0; have y1 := blk_free kU 1; have y2 := blk_free kU 2; have hbRU : Below wr.heap.size wr U := Below.trans hbRV (hbU.mono (Nat.le_of_lt hlV)))
      refine wp_named ?_
      intro Y hY
      have kY : blk Y wr.heap.size (fxc { f with A := A5, cap := c5 }).toArray 35 := by rw [hY]; exact (by apply blk_of; (repeat (first | with_reducible exact kU | with_reducible apply blk_drew | with_reducible apply blk_gw | with_reducible apply blk_alloc | with_reducible apply blk_set | ((with_reducible apply blk_other); focus omega))); (first | rfl | simp))
      have hoY : Y.ownsRow W.heap.size 24 2 (.slice A5 f.ps.length c5) f.ps.length (pv f.ps) := by
        rw [hY]
        refine owns_weak (B := V.heap.size) ?_ hszV
        repeat (first | exact hoU | refine owns_set23 ?_ (by omega))
      have hbRY : Below wr.heap.size wr Y := by rw [hY]; exact bBel
      have hne : Hid (∀ g, u3.ownBlock = some g → (Value.slice A5 f.ps.length c5).ownBlock ≠ some g) := fun g hg e => by
        have h1 := hvoH.out g hg
        obtain ⟨_, ⟨h2, _⟩ | ⟨g', cap, cur, h2, hB, _⟩⟩ := hoU
        · rw [h2] at e; simp [Value.ownBlock] at e
        · rw [h2] at e; simp [Value.ownBlock] at e; omega
      clear hY kU oU x0 x1 x2 x3 x4 x5 x6 x7 x8 x9 y0 y1 y2 hbRU hoU hbU kV oV v0 v1 v2 v3 v4 v5 v6 v7 v8 v9 hNV hPV cS hbWV hbRV hlV hszV
      have hNY := hN.to hbRY
      have hbWY : Below W.heap.size W Y := Below.trans hbR (hbRY.mono hszR)
      have hszY := hbWY.size
      have oY := blk_older kY
      have hF0 : Hid (fx0 { f with A := A5, cap := c5 } = fx0 f) := rfl
      have hf2 : Hid ((fxc { f with A := A5, cap := c5 }).length = 10) := rfl
      have hv2 : Hid ((Value.slice A5 f.ps.length c5) = .slice ({ f with A := A5, cap := c5 } : Fxr).A ({ f with A := A5, cap := c5 } : Fxr).ps.length ({ f with A := A5, cap := c5 } : Fxr).cap ∧ f.ps.length = ({ f with A := A5, cap := c5 } : Fxr).ps.length ∧ pv f.ps = pv ({ f with A := A5, cap := c5 } : Fxr).ps) := ⟨rfl, rfl, rfl⟩
      generalize ({ f with A := A5, cap := c5 } : Fxr) = f5 at *
      rw [hv2.out.1, hv2.out.2.1, hv2.out.2.2] at hoY
      rw [hv2.out.1] at hne
      have hQ5 : Hid (∀ w', Below Y.heap.size Y w' → w'.rangeAt wr.heap.size 0 (fxc f5)) := fun w' h' => rng_blk23 (blk_below h' kY)
      go_upto_region 7 with (first
        | (refine wpList_load_mid rfl 35 _ rfl wr.heap.size 0 rfl _ _ (hQ5.out _ bBel) Tryz.underlying35 rfl (fx_sizeC f5) ?_)
        | (refine wpList_bsF rfl _ rfl f5 rfl ?_)
        | (at_builtin; refine wpList_app23 rfl _ _ 27 rfl W.heap.size 35 i0 (.agg #[.int .i64 0, .int .i64 0, .slice none 0 0, .int .i64 0, .int .i64 0, .int .i64 0, .bool false, .int .i64 0, .int .i64 0, .int .i64 0]) 10 96 (by kernel_rfl) hi hz0 hz1 hz2 (by kernel_rfl) (by decide) _ fs.length (fs.flatMap fxc) rfl (owns_below hNY.1 bBel) _ (fxc f5) 35 rfl hf2.out (blk_at rfl) (fx_one f5) (by unfold maxLen; omega) (by omega) (by first | (simp; omega) | omega) ?_; intro v' w2 hown2 hb2 hg2 ho2))
      have hN2 := FxNew.snoc (hNY.to bBel) (owns_below hoY bBel) (fun g hg => hne.out g hg) hown2 hg2 ho2
      have hm3 : Hid ((fs ++ [f5]).map fx0 = (b.fs.take (k + 1)).map fx0) := by show _ = _; rw [hm2.out, List.map_append, hm.out, ← hF0.out]; rfl
      go_wp2_with fail
      exact ⟨⟨k + 1, fs ++ [f5], by omega, by go_num, hm3, by rw [List.length_append]; simp; omega, hN2, Below.trans bBel hb2⟩, by (try go_num); simp [intOf]; (try omega)⟩
    · obtain rfl : k = b.fs.length := by omega
      obtain ⟨A9, c9, rfl, hF9, hn9, hl9, hm9⟩ := hN.mem
      rw [List.take_length] at hm
      have kbR := blk_below hbR kb
      have kRR := blk_below hbR kR
      have fb19 := blk_free kbR 19
      obtain ⟨-, -, -, -, -, -, -, -, -, -, -, -, -, -, -, -, -, -, -, eb19⟩ := bd_cells kbR
      have oB9 := blk_older kbR
      obtain ⟨b9, hb9⟩ : ∃ b9 : Bdy, b9 = { b with A := A9, cap := c9, fs := fs } := ⟨_, rfl⟩
      have hb9H : Hid (b9 = { b with A := A9, cap := c9, fs := fs }) := hb9
      clear hb9
      go_wp2_with (first
        | (refine list_nm23 ?_; intro Y hY; have kY : blk Y w.heap.size (bdc b9).toArray 29 := (by rw [hY, hb9H.out, ← bdc_set19]; exact blk_set kbR); have kRY : blk Y (w.heap.size + 1) #[.int .i64 0, .int .i64 0, .int .i64 0, .int .i64 0, .int .i64 0, .int .i64 0, .int .i64 0, .int .i64 0, .int .i64 0, .int .i64 0, .int .i64 0, .int .i64 0, .int .i64 0, .int .i64 0, .bool false, .bool false, .bool false, .bool false, .int .i64 0, .slice none 0 0] 29 := (by rw [hY]; exact (by apply blk_of; (repeat (first | with_reducible exact kRR | with_reducible apply blk_drew | with_reducible apply blk_gw | with_reducible apply blk_alloc | with_reducible apply blk_set | ((with_reducible apply blk_other); focus omega))); (first | rfl | simp))); have hNY : FxNew Y W.heap.size (.slice A9 fs.length c9) fs := (by rw [hY]; exact hN.set (by omega)); have hbY : Below w.heap.size w Y := (by rw [hY]; exact bBel); clear hY; refine wpList_load_mid rfl 29 _ rfl w.heap.size 0 rfl (bdc b9) _ (rng_blk23 kY) Tryz.underlying29 rfl (bd_sizeC _) ?_)
        | (refine wpList_store_wide rfl 29 _ _ rfl (w.heap.size + 1) (bdc b9) rfl rfl _ _ kRY (by kernel_rfl) (bd_sizeC _) (bd_all _) ?_; intro Z kZ hbZ koZ hzZ))
      refine bodyPost_ret (v := .agg (bdc b9).toArray) (res_wide Tryz.results41 rfl _ (rng_blk23 kZ) Tryz.underlying29 rfl (bd_sizeC _)) rfl ⟨⟨A9, c9, fs, by rw [hb9H.out], hm.out, ?_⟩, hbZ _ _ (by omega) hbY⟩
      exact (hNY.keep fun g c t hg hk => koZ g c t (by omega) hk).weaken hbW.size


end Go.Proofs.YtdmcdicphohlfaaGreat
