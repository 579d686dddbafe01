/- Contracts of package manifold: a shape put into the world, Collide out of what two shapes have in common. -/
import Derived.Test.YtiecpebckmihgaaGreatMnR
import Derived.Test.YtiecpebckmihgaaGreatMnV
set_option linter.unusedVariables false
namespace Go.Proofs.YtiecpebckmihgaaGreat
open Go.RowKit Fx

def PlcR (w : World) (K R : Int) (ps : List Pt) (e : Ending) (w' : World) : Prop := (∃ A' cap', e = .returned (.agg #[.int .i64 K, .slice A' ps.length cap', .int .i64 R]) ∧ ps.length ≤ cap' ∧ cap' ≤ maxLen ∧ Pts w' A' ps) ∧ Below w.heap.size w w'
theorem plc_ex {P : Program} {f : FuncId} {args : Array Value} {w : World} {K R : Int} {ps : List Pt} (h : Calls P f args w (PlcR w K R ps)) : Calls P f args w fun e w' => (∃ A' cap', e = .returned (.agg #[.int .i64 K, .slice A' ps.length cap', .int .i64 R]) ∧ ps.length ≤ cap' ∧ cap' ≤ maxLen ∧ Pts w' A' ps) ∧ ∃ q, w' = gw w q :=
  h.mono fun e w' ⟨h1, h2⟩ => ⟨h1, gw_of_below h2⟩

theorem pts_ne {w : World} {E b off : Nat} {x y : Int} {v : Value} {A : Option Addr} {n c : Nat} {t : TypeId} {L : List Pt} (hk : blk w E #[.int .i64 x, .slice A n c, .int .i64 y] t) (hp : Pts w (some ⟨b, off, none⟩) L) (h0 : 0 < L.length) : b ≠ E := by
  rintro rfl
  obtain ⟨b', off', e, hc⟩ := pts_open0 hp h0
  cases e
  obtain ⟨d0, d1⟩ := hc 0 h0
  rw [Nat.zero_mul, Nat.add_zero] at d0 d1
  rw [blk_cell hk] at d0 d1
  match off, d0, d1 with
  | 0, d0, d1 => simp at d1
  | 1, d0, d1 => simp at d0
  | off + 2, d0, d1 => simp at d1
theorem pts_keep {w w' : World} {E : Nat} {x y : Int} {B : Option Addr} {n c : Nat} {t : TypeId} {A : Option Addr} {L : List Pt} (hk : blk w E #[.int .i64 x, .slice B n c, .int .i64 y] t) (hp : Pts w A L) (hs : ∀ b, b ≠ E → Sm b w w') : Pts w' A L := by
  rcases Nat.eq_zero_or_pos L.length with h0 | h0
  · exact .inl (List.eq_nil_of_length_eq_zero h0)
  · obtain ⟨b, off, rfl, _⟩ := pts_open0 hp h0
    exact pts_sm (hs b (pts_ne (v := .nilFunc) hk hp h0)) hp

theorem pts_keep2 {w w' : World} {E F : Nat} {x y x2 y2 : Int} {B B2 : Option Addr} {n c n2 c2 : Nat} {t t2 : TypeId} {A : Option Addr} {L : List Pt} (hk : blk w E #[.int .i64 x, .slice B n c, .int .i64 y] t) (hk2 : blk w F #[.int .i64 x2, .slice B2 n2 c2, .int .i64 y2] t2) (hp : Pts w A L) (hs : ∀ b, b ≠ E → b ≠ F → Sm b w w') : Pts w' A L := by
  rcases Nat.eq_zero_or_pos L.length with h0 | h0
  · exact .inl (List.eq_nil_of_length_eq_zero h0)
  · obtain ⟨b, off, rfl, _⟩ := pts_open0 hp h0
    exact pts_sm (hs b (pts_ne (v := .nilFunc) hk hp h0) (pts_ne (v := .nilFunc) hk2 hp h0)) hp
theorem cnts_keep {w w' : World} {E : Nat} {x y : Int} {B : Option Addr} {n c : Nat} {t : TypeId} {A : Option Addr} {L : List Cnt} (hk : blk w E #[.int .i64 x, .int .i64 y, .slice B n c] t) (hp : Cnts w A L) (hs : ∀ b, b ≠ E → Sm b w w') : Cnts w' A L := by
  rcases hp with hp | ⟨b, off, rfl, hc⟩
  · exact .inl hp
  rcases Nat.eq_zero_or_pos L.length with h0 | h0
  · exact .inl (List.eq_nil_of_length_eq_zero h0)
  · have hne : b ≠ E := by
      rintro rfl
      obtain ⟨cs, k1, k2, k3⟩ := hc 0 h0
      have d := k2 5 (by decide)
      rw [Nat.zero_mul, Nat.add_zero, blk_cell hk, List.getElem?_eq_getElem (by omega)] at d
      simp at d
    have h := hs b hne
    have e : ∀ i, w'.cell? ⟨b, i, none⟩ = w.cell? ⟨b, i, none⟩ := fun i => by unfold World.cell?; rw [h.2]
    exact .inr ⟨b, off, rfl, fun i hi => by
      obtain ⟨cs, k1, k2, k3⟩ := hc i hi
      exact ⟨cs, k1, fun j hj => by rw [e]; exact k2 j hj, k3⟩⟩
theorem mnt_mk2 {w w' : World} {nx ny : Int} {l : List Cnt} {A' : Option Addr} {cap' : Nat} {ok : Bool} (h1 : l.length ≤ cap') (h2 : cap' ≤ maxLen) (h3 : A' = none → cap' = 0) (h4 : Cnts w' A' l) (h6 : Below w.heap.size w w') : MnT w ⟨nx, ny, l⟩ ok (.returned (.tuple #[.agg #[.int .i64 nx, .int .i64 ny, .slice A' l.length cap'], .bool ok])) w' :=
  ⟨⟨A', cap', rfl, h1, h2, h3, h4⟩, h6⟩
theorem mnt_mk {w w' : World} {nx ny : Int} {l : List Cnt} {A' : Option Addr} {cap' : Nat} {ok : Bool} (hok : decide ((⟨nx, ny, l⟩ : Mn).l ≠ []) = ok) (h1 : l.length ≤ cap') (h2 : cap' ≤ maxLen) (h3 : A' = none → cap' = 0) (h4 : Cnts w' A' l) (h6 : Below w.heap.size w w') : MnT w ⟨nx, ny, l⟩ (decide ((⟨nx, ny, l⟩ : Mn).l ≠ [])) (.returned (.tuple #[.agg #[.int .i64 nx, .int .i64 ny, .slice A' l.length cap'], .bool ok])) w' := by
  subst hok
  exact ⟨⟨A', cap', rfl, h1, h2, h3, h4⟩, h6⟩

set_option maxHeartbeats 4000000 in
theorem mplace_b (K R : Int) (A : Option Addr) (cap : Nat) (ps : List (Int × Int)) (px py a : Int) (hl : ps.length ≤ 1000) (hk : ps.length ≤ cap) (w : World) (hp : Pts w A ps) : Calls Tryz.prog 18 #[.agg #[.int .i64 K, .int .i64 R, .slice A ps.length cap], .agg #[.int .i64 px, .int .i64 py, .int .i64 a]] w (PlcR w K R (core K R ps px py a)) := by
  have cV := fun w' h => (yvert_b K R A cap ps px py a (by omega) w' h hk).mono fun e w'' ⟨h1, h2⟩ => (⟨h1, gw_of_below h2⟩ : _ ∧ ∃ q, w'' = gw w' q)
  generalize core K R ps px py a = L at *
  go_enter Tryz.func18, Tryz.ntmps18
  go_upto_region 1 with fail
  refine wp_named ?_
  intro W hW
  have kA : blk W w.heap.size #[.int .i64 K, .int .i64 R, .slice A ps.length cap] 25 := by rw [hW]; exact bBkn
  have kT : blk W (w.heap.size + 1) #[.int .i64 px, .int .i64 py, .int .i64 a] 29 := by rw [hW]; exact bBkn
  have kR : blk W (w.heap.size + 2) #[.int .i64 0, .slice none 0 0, .int .i64 0] 50 := by rw [hW]; exact bBkn
  have hbW : Below w.heap.size w W := by rw [hW]; exact bBel
  clear hW
  have hszW := hbW.size
  have hP := Pts.to hp hbW
  have okA := blk_older kA
  have ckA_0 : _ = some _ := blk_cell kA 0
  have ckA_1 : _ = some _ := blk_cell kA 1
  have ckA_2 : _ = some _ := blk_cell kA 2
  have fkA_0 := blk_free kA 0
  have fkA_1 := blk_free kA 1
  have fkA_2 := blk_free kA 2
  have okT := blk_older kT
  have ckT_0 : _ = some _ := blk_cell kT 0
  have ckT_1 : _ = some _ := blk_cell kT 1
  have ckT_2 : _ = some _ := blk_cell kT 2
  have fkT_0 := blk_free kT 0
  have fkT_1 := blk_free kT 1
  have fkT_2 := blk_free kT 2
  refine wp_mix 8 [0, 1, 0, 0, 12, 0, 32, 127, 255] [] [0, 1, 2, 3, 4, 5, 6, 7] (by kernel_rfl) (by kernel_rfl) ?_
  repeat (first | (refine mix_skip (by rfl) (by rfl) (by rfl) (by rfl) ?_) | (refine mix_early (by rfl) (by rfl) (by rfl) ?_; go_big_quiet_step (fail); with_reducible refine wpQuiet_nil ?_) | (refine mix_late (by rfl) (by rfl) (by rfl) ?_; go_big_quiet_step (fail); with_reducible refine wpQuiet_nil ?_) | (refine mix_call (by rfl) (by rfl) (by rfl) ?_; intro pM Qs hQs; go_wp2_with (go_at_call 14; refine Calls.mono (cV _ (Pts.to hP bBel)) ?_; rintro e w1 ⟨⟨A5, c5, rfl, hle5, hmx5, hP5⟩, q5, rfl⟩); refine hQs _ _ bBel ?_))
  refine mix_end ?_
  intro pE
  simp only [List.drop_succ_cons, List.drop_zero]
  refine list_nm ?_
  intro Y hY
  have kR1 : blk Y (w.heap.size + 2) #[.int .i64 0, .slice none 0 0, .int .i64 0] 50 := by rw [hY]; exact (by apply blk_of; (repeat (first | with_reducible exact kR | with_reducible apply blk_drew | with_reducible apply blk_gw | with_reducible apply blk_alloc | with_reducible apply blk_set | ((with_reducible apply blk_other); focus omega))); (first | rfl | simp))
  have hbY : Below w.heap.size w Y := by rw [hY]; exact bBel
  have hPY : Pts Y A5 L := by rw [hY]; exact Pts.to hP5 bBel
  clear hY okA ckA_0 ckA_1 ckA_2 fkA_0 fkA_1 fkA_2 okT ckT_0 ckT_1 ckT_2 fkT_0 fkT_1 fkT_2 kA kT kR hP5
  have okR1 := blk_older kR1
  have ckR1_0 : _ = some _ := blk_cell kR1 0
  have ckR1_1 : _ = some _ := blk_cell kR1 1
  have ckR1_2 : _ = some _ := blk_cell kR1 2
  have fkR1_0 := blk_free kR1 0
  have fkR1_1 := blk_free kR1 1
  have fkR1_2 := blk_free kR1 2
  go_wp2_with fail
  refine post_named ?_
  intro Z hZ
  have kZ : blk Z (w.heap.size + 2) #[.int .i64 K, .slice A5 L.length c5, .int .i64 R] 50 := by rw [hZ]; exact (by apply blk_of; (repeat (first | with_reducible exact kR1 | with_reducible apply blk_drew | with_reducible apply blk_gw | with_reducible apply blk_alloc | with_reducible apply blk_set | ((with_reducible apply blk_other); focus omega))); (first | rfl | simp))
  have hbZ : Below w.heap.size w Z := by rw [hZ]; exact bBel
  have hPZ : Pts Z A5 L := by
    refine pts_keep kR1 hPY fun b hb => ?_
    rw [hZ]
    repeat (first | with_reducible exact sm_refl _ _ | with_reducible refine sm_gw ?_ | with_reducible refine sm_set ?_ hb)
  clear hZ
  have okZ := blk_older kZ
  have ckZ_0 : _ = some _ := blk_cell kZ 0
  have ckZ_1 : _ = some _ := blk_cell kZ 1
  have ckZ_2 : _ = some _ := blk_cell kZ 2
  have fkZ_0 := blk_free kZ 0
  have fkZ_1 := blk_free kZ 1
  have fkZ_2 := blk_free kZ 2
  exact bodyPost_ret (v := .agg #[.int .i64 K, .slice A5 L.length c5, .int .i64 R]) (by simp [results, Tryz.results18, go_sem, ckZ_0, ckZ_1, ckZ_2]) rfl ⟨⟨A5, c5, rfl, hle5, hmx5, hPZ⟩, hbZ⟩

set_option maxRecDepth 100000 in
set_option maxHeartbeats 16000000 in
theorem mcolX_b (Ka Ra Kb Rb : Int) (A B_ : Option Addr) (ca cb : Nat) (ps qs : List (Int × Int)) (px py pa qx qy qa : Int) (m : Mn) (hl : ps.length ≤ 1000) (hm : qs.length ≤ 1000) (hk : ps.length ≤ ca) (hj : qs.length ≤ cb)
    (hT : valS Ka Ra ps = 0 → valS Kb Rb qs = 0 → ∀ A1 c1 A2 c2 w', Pts w' A1 (ps.map (tr px py pa)) → Pts w' A2 (qs.map (tr qx qy qa)) → Calls Tryz.prog 19 #[.agg #[.int .i64 Ka, .slice A1 ps.length c1, .int .i64 Ra], .agg #[.int .i64 Kb, .slice A2 qs.length c2, .int .i64 Rb]] w' (MnR w' m))
    (w : World) (ha : Pts w A ps) (hb : Pts w B_ qs) : Calls Tryz.prog 8 #[.agg #[.int .i64 Ka, .int .i64 Ra, .slice A ps.length ca], .agg #[.int .i64 px, .int .i64 py, .int .i64 pa], .agg #[.int .i64 Kb, .int .i64 Rb, .slice B_ qs.length cb], .agg #[.int .i64 qx, .int .i64 qy, .int .i64 qa]] w
      (MnT w (if valS Ka Ra ps = 0 ∧ valS Kb Rb qs = 0 then m.nz else mz) (decide ((if valS Ka Ra ps = 0 ∧ valS Kb Rb qs = 0 then m.nz else mz).l ≠ []))) := by
  have cP := fun w' h => plc_ex (mplace_b Ka Ra A ca ps px py pa hl hk w' h)
  have cQ := fun w' h => plc_ex (mplace_b Kb Rb B_ cb qs qx qy qa hm hj w' h)
  obtain ⟨R, hR⟩ : ∃ R, Hid ((if valS Ka Ra ps = 0 ∧ valS Kb Rb qs = 0 then m.nz else mz) = R) := ⟨_, rfl⟩
  rw [hR.out]
  have hcs : (R = mz ∧ ((core Ka Ra ps px py pa).length = 0 ∨ ((core Ka Ra ps px py pa).length ≠ 0 ∧ (core Kb Rb qs qx qy qa).length = 0))) ∨ (valS Ka Ra ps = 0 ∧ valS Kb Rb qs = 0 ∧ core Ka Ra ps px py pa = ps.map (tr px py pa) ∧ core Kb Rb qs qx qy qa = qs.map (tr qx qy qa) ∧ 0 < ps.length ∧ 0 < qs.length ∧ R = m.nz) := by
    by_cases v1 : valS Ka Ra ps = 0
    · by_cases v2 : valS Kb Rb qs = 0
      · refine .inr ⟨v1, v2, core_ok _ _ _ v1, core_ok _ _ _ v2, ?_, ?_, ?_⟩
        · have := (val_len v1).1; omega
        · have := (val_len v2).1; omega
        · rw [← hR.out, if_pos ⟨v1, v2⟩]
      · refine .inl ⟨by rw [← hR.out, if_neg (fun h => v2 h.2)], .inr ⟨?_, by rw [core_no _ _ _ v2]; rfl⟩⟩
        rw [core_ok _ _ _ v1, List.length_map]; have := (val_len v1).1; omega
    · exact .inl ⟨by rw [← hR.out, if_neg (fun h => v1 h.1)], .inl (by rw [core_no _ _ _ v1]; rfl)⟩
  clear hR
  go_enter Tryz.func8, Tryz.ntmps8
  go_upto_region 1 with fail
  refine wp_named ?_
  intro W hW
  have kA : blk W w.heap.size #[.int .i64 Ka, .int .i64 Ra, .slice A ps.length ca] 25 := by rw [hW]; exact bBkn
  have kT : blk W (w.heap.size + 1) #[.int .i64 px, .int .i64 py, .int .i64 pa] 29 := by rw [hW]; exact bBkn
  have kB : blk W (w.heap.size + 2) #[.int .i64 Kb, .int .i64 Rb, .slice B_ qs.length cb] 25 := by rw [hW]; exact bBkn
  have kU : blk W (w.heap.size + 3) #[.int .i64 qx, .int .i64 qy, .int .i64 qa] 29 := by rw [hW]; exact bBkn
  have kR : blk W (w.heap.size + 4) #[.int .i64 0, .int .i64 0, .slice none 0 0] 34 := by rw [hW]; exact bBkn
  have hbW : Below w.heap.size w W := by rw [hW]; exact bBel
  clear hW
  have hszW := hbW.size
  have haW := Pts.to ha hbW
  have hbPW := Pts.to hb hbW
  have okA := blk_older kA
  have ckA_0 : _ = some _ := blk_cell kA 0
  have ckA_1 : _ = some _ := blk_cell kA 1
  have ckA_2 : _ = some _ := blk_cell kA 2
  have fkA_0 := blk_free kA 0
  have fkA_1 := blk_free kA 1
  have fkA_2 := blk_free kA 2
  have okT := blk_older kT
  have ckT_0 : _ = some _ := blk_cell kT 0
  have ckT_1 : _ = some _ := blk_cell kT 1
  have ckT_2 : _ = some _ := blk_cell kT 2
  have fkT_0 := blk_free kT 0
  have fkT_1 := blk_free kT 1
  have fkT_2 := blk_free kT 2
  have okB := blk_older kB
  have ckB_0 : _ = some _ := blk_cell kB 0
  have ckB_1 : _ = some _ := blk_cell kB 1
  have ckB_2 : _ = some _ := blk_cell kB 2
  have fkB_0 := blk_free kB 0
  have fkB_1 := blk_free kB 1
  have fkB_2 := blk_free kB 2
  have okU := blk_older kU
  have ckU_0 : _ = some _ := blk_cell kU 0
  have ckU_1 : _ = some _ := blk_cell kU 1
  have ckU_2 : _ = some _ := blk_cell kU 2
  have fkU_0 := blk_free kU 0
  have fkU_1 := blk_free kU 1
  have fkU_2 := blk_free kU 2
  generalize core Ka Ra ps px py pa = L1 at *
  generalize core Kb Rb qs qx qy qa = L2 at *
  refine wp_mix 8 [0, 0, 3, 0, 0, 31, 0, 0, 255, 511] [] [0, 1, 2, 3, 4, 5, 6, 7] (by kernel_rfl) (by kernel_rfl) ?_
  repeat (first | (refine mix_skip (by rfl) (by rfl) (by rfl) (by rfl) ?_) | (refine mix_early (by rfl) (by rfl) (by rfl) ?_; go_big_quiet_step (fail); with_reducible refine wpQuiet_nil ?_) | (refine mix_late (by rfl) (by rfl) (by rfl) ?_; go_big_quiet_step (fail); with_reducible refine wpQuiet_nil ?_) | (refine mix_call (by rfl) (by rfl) (by rfl) ?_; intro pM Qs hQs; go_wp2_with (first | (go_at_call 18; (with_reducible show Calls _ _ #[.agg #[.int .i64 Ka, .int .i64 Ra, .slice A _ _], _] _ _); refine Calls.mono (cP _ (Pts.to haW bBel)) ?_; rintro e w1 ⟨⟨A5, c5, rfl, hle5, hmx5, hP5⟩, q5, rfl⟩) | (go_at_call 18; (with_reducible show Calls _ _ #[.agg #[.int .i64 Kb, .int .i64 Rb, .slice B_ _ _], _] _ _); refine Calls.mono (cQ _ (Pts.to hbPW bBel)) ?_; rintro e w1 ⟨⟨A6, c6, rfl, hle6, hmx6, hP6⟩, q6, rfl⟩)); refine hQs _ _ bBel ?_))
  refine mix_make #[.int .i64 0, .slice none 0 0, .int .i64 0] 50 none (by rfl) (by rfl) (by rfl) (by rfl) (fun w => by simp [go_sem, mval]) ?_
  intro b7 wb hbb kb hS
  obtain ⟨qb, rfl⟩ := gw_of_below hbb
  refine mix_make #[.int .i64 0, .slice none 0 0, .int .i64 0] 50 none (by rfl) (by rfl) (by rfl) (by rfl) (fun w => by simp [go_sem, mval]) ?_
  intro b8 wc hbc kc hS8
  obtain ⟨qc, rfl⟩ := gw_of_below hbc
  have n7 : W.heap.size ≤ b7 := Nat.le_of_not_lt fun h => hS (by simp [h])
  have n8 : W.heap.size ≤ b8 := Nat.le_of_not_lt fun h => hS8 (by simp [h])
  have n78 : b7 ≠ b8 := fun h => hS8 (by simp [h])
  clear hbb hbc hS hS8
  simp only [mval]
  refine mix_end ?_
  intro pE
  simp only [List.drop_succ_cons, List.drop_zero]
  refine list_nm ?_
  intro Y hY
  have kR1 : blk Y (w.heap.size + 4) #[.int .i64 0, .int .i64 0, .slice none 0 0] 34 := by rw [hY]; exact (by apply blk_of; (repeat (first | with_reducible exact kR | with_reducible apply blk_drew | with_reducible apply blk_gw | with_reducible apply blk_alloc | with_reducible apply blk_set | ((with_reducible apply blk_other); focus omega))); (first | rfl | simp))
  have k7 : blk Y b7 #[.int .i64 0, .slice none 0 0, .int .i64 0] 50 := by rw [hY]; exact (by apply blk_of; (repeat (first | with_reducible exact kb | with_reducible apply blk_drew | with_reducible apply blk_gw | with_reducible apply blk_alloc | with_reducible apply blk_set | ((with_reducible apply blk_other); focus omega))); (first | rfl | simp))
  have k8 : blk Y b8 #[.int .i64 0, .slice none 0 0, .int .i64 0] 50 := by rw [hY]; exact (by apply blk_of; (repeat (first | with_reducible exact kc | with_reducible apply blk_drew | with_reducible apply blk_gw | with_reducible apply blk_alloc | with_reducible apply blk_set | ((with_reducible apply blk_other); focus omega))); (first | rfl | simp))
  have hbY : Below w.heap.size w Y := by rw [hY]; exact bBel
  have hP5Y : Pts Y A5 L1 := by rw [hY]; exact Pts.to hP5 bBel
  have hP6Y : Pts Y A6 L2 := by rw [hY]; exact Pts.to hP6 bBel
  have hRW := blk_lt kR
  clear hY okA ckA_0 ckA_1 ckA_2 fkA_0 fkA_1 fkA_2 okT ckT_0 ckT_1 ckT_2 fkT_0 fkT_1 fkT_2 okB ckB_0 ckB_1 ckB_2 fkB_0 fkB_1 fkB_2 okU ckU_0 ckU_1 ckU_2 fkU_0 fkU_1 fkU_2 kA kT kB kU kR kb kc hP5 hP6 haW hbPW hbW cP cQ
  have ok7 := blk_older k7
  have ck7_0 : _ = some _ := blk_cell k7 0
  have ck7_1 : _ = some _ := blk_cell k7 1
  have ck7_2 : _ = some _ := blk_cell k7 2
  have fk7_0 := blk_free k7 0
  have fk7_1 := blk_free k7 1
  have fk7_2 := blk_free k7 2
  have ok8 := blk_older k8
  have ck8_0 : _ = some _ := blk_cell k8 0
  have ck8_1 : _ = some _ := blk_cell k8 1
  have ck8_2 : _ = some _ := blk_cell k8 2
  have fk8_0 := blk_free k8 0
  have fk8_1 := blk_free k8 1
  have fk8_2 := blk_free k8 2
  go_upto_region 2 with fail
  refine wp_named ?_
  intro X hX
  have kE : blk X b7 #[.int .i64 Ka, .slice A5 L1.length c5, .int .i64 Ra] 50 := by rw [hX]; exact (by apply blk_of; (repeat (first | with_reducible exact k7 | with_reducible apply blk_drew | with_reducible apply blk_gw | with_reducible apply blk_alloc | with_reducible apply blk_set | ((with_reducible apply blk_other); focus omega))); (first | rfl | simp))
  have kF : blk X b8 #[.int .i64 Kb, .slice A6 L2.length c6, .int .i64 Rb] 50 := by rw [hX]; exact (by apply blk_of; (repeat (first | with_reducible exact k8 | with_reducible apply blk_drew | with_reducible apply blk_gw | with_reducible apply blk_alloc | with_reducible apply blk_set | ((with_reducible apply blk_other); focus omega))); (first | rfl | simp))
  have kR2 : blk X (w.heap.size + 4) #[.int .i64 0, .int .i64 0, .slice none 0 0] 34 := by rw [hX]; exact (by apply blk_of; (repeat (first | with_reducible exact kR1 | with_reducible apply blk_drew | with_reducible apply blk_gw | with_reducible apply blk_alloc | with_reducible apply blk_set | ((with_reducible apply blk_other); focus omega))); (first | rfl | simp))
  have hbX : Below w.heap.size w X := by
    have g7 : w.heap.size ≤ b7 := by omega
    have g8 : w.heap.size ≤ b8 := by omega
    rw [hX]
    repeat (first | with_reducible exact hbY | with_reducible refine Below.setCell ?_ (by first | exact g7 | exact g8) _)
  have hP5X : Pts X A5 L1 := by
    refine pts_keep2 k7 k8 hP5Y fun b hb hb2 => ?_
    rw [hX]
    repeat (first | with_reducible exact sm_refl _ _ | with_reducible refine sm_gw ?_ | with_reducible refine sm_set ?_ hb | with_reducible refine sm_set ?_ hb2)
  have hP6X : Pts X A6 L2 := by
    refine pts_keep2 k7 k8 hP6Y fun b hb hb2 => ?_
    rw [hX]
    repeat (first | with_reducible exact sm_refl _ _ | with_reducible refine sm_gw ?_ | with_reducible refine sm_set ?_ hb | with_reducible refine sm_set ?_ hb2)
  clear hX ok7 ck7_0 ck7_1 ck7_2 fk7_0 fk7_1 fk7_2 ok8 ck8_0 ck8_1 ck8_2 fk8_0 fk8_1 fk8_2 k7 k8 kR1 hbY hP5Y hP6Y
  have hszX := hbX.size
  have hRX := blk_lt kR2
  have okR2 := blk_older kR2
  have ckR2_0 : _ = some _ := blk_cell kR2 0
  have ckR2_1 : _ = some _ := blk_cell kR2 1
  have ckR2_2 : _ = some _ := blk_cell kR2 2
  have fkR2_0 := blk_free kR2 0
  have fkR2_1 := blk_free kR2 1
  have fkR2_2 := blk_free kR2 2
  rcases hcs with ⟨rfl, h1 | ⟨h1, h2⟩⟩ | ⟨v1, v2, e1, e2, p1, p2, hRm⟩
  · have z1 : ((L1.length : Int) == 0) = true := by rw [beq_iff_eq]; omega
    clear h1 hP5X hP6X hT
    generalize L1.length = N1 at *
    generalize L2.length = N2 at *
    have okE := blk_older kE
    have ckE_0 : _ = some _ := blk_cell kE 0
    have ckE_1 : _ = some _ := blk_cell kE 1
    have ckE_2 : _ = some _ := blk_cell kE 2
    have fkE_0 := blk_free kE 0
    have fkE_1 := blk_free kE 1
    have fkE_2 := blk_free kE 2
    have okF := blk_older kF
    have ckF_0 : _ = some _ := blk_cell kF 0
    have ckF_1 : _ = some _ := blk_cell kF 1
    have ckF_2 : _ = some _ := blk_cell kF 2
    have fkF_0 := blk_free kF 0
    have fkF_1 := blk_free kF 1
    have fkF_2 := blk_free kF 2
    go_wp2_with fail
    refine post_named ?_
    intro Z hZ
    have kZ : blk Z (w.heap.size + 4) #[.int .i64 0, .int .i64 0, .slice none 0 0] 34 := by rw [hZ]; exact (by apply blk_of; (repeat (first | with_reducible exact kR2 | with_reducible apply blk_drew | with_reducible apply blk_gw | with_reducible apply blk_alloc | with_reducible apply blk_set | ((with_reducible apply blk_other); focus omega))); (first | rfl | simp))
    have hbZ : Below w.heap.size w Z := by rw [hZ]; exact bBel
    clear hZ
    have okZ := blk_older kZ
    have ckZ_0 : _ = some _ := blk_cell kZ 0
    have ckZ_1 : _ = some _ := blk_cell kZ 1
    have ckZ_2 : _ = some _ := blk_cell kZ 2
    have fkZ_0 := blk_free kZ 0
    have fkZ_1 := blk_free kZ 1
    have fkZ_2 := blk_free kZ 2
    exact bodyPost_ret (v := .tuple #[.agg #[.int .i64 0, .int .i64 0, .slice none 0 0], .bool false]) (by simp [results, Tryz.results8, go_sem, ckZ_0, ckZ_1, ckZ_2]) rfl (mnt_mk (l := []) (by decide) (Nat.le_refl _) (by decide) (fun _ => rfl) (.inl rfl) hbZ)
  · have z1 : ((L1.length : Int) == 0) = false := by rw [beq_eq_false_iff_ne]; omega
    have z2 : ((L2.length : Int) == 0) = true := by rw [beq_iff_eq]; omega
    clear h1 h2 hP5X hP6X hT
    generalize L1.length = N1 at *
    generalize L2.length = N2 at *
    have okE := blk_older kE
    have ckE_0 : _ = some _ := blk_cell kE 0
    have ckE_1 : _ = some _ := blk_cell kE 1
    have ckE_2 : _ = some _ := blk_cell kE 2
    have fkE_0 := blk_free kE 0
    have fkE_1 := blk_free kE 1
    have fkE_2 := blk_free kE 2
    have okF := blk_older kF
    have ckF_0 : _ = some _ := blk_cell kF 0
    have ckF_1 : _ = some _ := blk_cell kF 1
    have ckF_2 : _ = some _ := blk_cell kF 2
    have fkF_0 := blk_free kF 0
    have fkF_1 := blk_free kF 1
    have fkF_2 := blk_free kF 2
    go_wp2_with fail
    refine post_named ?_
    intro Z hZ
    have kZ : blk Z (w.heap.size + 4) #[.int .i64 0, .int .i64 0, .slice none 0 0] 34 := by rw [hZ]; exact (by apply blk_of; (repeat (first | with_reducible exact kR2 | with_reducible apply blk_drew | with_reducible apply blk_gw | with_reducible apply blk_alloc | with_reducible apply blk_set | ((with_reducible apply blk_other); focus omega))); (first | rfl | simp))
    have hbZ : Below w.heap.size w Z := by rw [hZ]; exact bBel
    clear hZ
    have okZ := blk_older kZ
    have ckZ_0 : _ = some _ := blk_cell kZ 0
    have ckZ_1 : _ = some _ := blk_cell kZ 1
    have ckZ_2 : _ = some _ := blk_cell kZ 2
    have fkZ_0 := blk_free kZ 0
    have fkZ_1 := blk_free kZ 1
    have fkZ_2 := blk_free kZ 2
    exact bodyPost_ret (v := .tuple #[.agg #[.int .i64 0, .int .i64 0, .slice none 0 0], .bool false]) (by simp [results, Tryz.results8, go_sem, ckZ_0, ckZ_1, ckZ_2]) rfl (mnt_mk (l := []) (by decide) (Nat.le_refl _) (by decide) (fun _ => rfl) (.inl rfl) hbZ)
  · have l1 : L1.length = ps.length := by rw [e1, List.length_map]
    have l2 : L2.length = qs.length := by rw [e2, List.length_map]
    rw [l1] at kE
    rw [l2] at kF
    rw [e1] at hP5X
    rw [e2] at hP6X
    have z1 : ((ps.length : Int) == 0) = false := by rw [beq_eq_false_iff_ne]; omega
    have z2 : ((qs.length : Int) == 0) = false := by rw [beq_eq_false_iff_ne]; omega
    have cT := fun w' h1 h2 => mnr_ex (hT v1 v2 A5 c5 A6 c6 w' h1 h2)
    clear hT e1 e2 l1 l2 p1 p2 v1 v2 hle5 hle6
    obtain ⟨nx, ny, l⟩ := m
    have okE := blk_older kE
    have ckE_0 : _ = some _ := blk_cell kE 0
    have ckE_1 : _ = some _ := blk_cell kE 1
    have ckE_2 : _ = some _ := blk_cell kE 2
    have fkE_0 := blk_free kE 0
    have fkE_1 := blk_free kE 1
    have fkE_2 := blk_free kE 2
    have okF := blk_older kF
    have ckF_0 : _ = some _ := blk_cell kF 0
    have ckF_1 : _ = some _ := blk_cell kF 1
    have ckF_2 : _ = some _ := blk_cell kF 2
    have fkF_0 := blk_free kF 0
    have fkF_1 := blk_free kF 1
    have fkF_2 := blk_free kF 2
    go_upto_region 5 with (go_at_call 19; refine Calls.mono (cT _ (Pts.to hP5X bBel) (Pts.to hP6X bBel)) ?_; rintro e w1 ⟨⟨A9, c9, rfl, hle9, hmx9, hnil9, hP9⟩, q9, rfl⟩)
    refine wp_named ?_
    intro V hV
    have kM : blk V (X.heap.size + q9.os.size) #[.int .i64 nx, .int .i64 ny, .slice A9 l.length c9] 34 := by rw [hV]; exact bBkn
    have kR3 : blk V (w.heap.size + 4) #[.int .i64 0, .int .i64 0, .slice none 0 0] 34 := by rw [hV]; exact (by apply blk_of; (repeat (first | with_reducible exact kR2 | with_reducible apply blk_drew | with_reducible apply blk_gw | with_reducible apply blk_alloc | with_reducible apply blk_set | ((with_reducible apply blk_other); focus omega))); (first | rfl | simp))
    have hbV : Below w.heap.size w V := by rw [hV]; exact bBel
    have hP9V : Cnts V A9 l := by rw [hV]; exact Cnts.to hP9 bBel
    clear hV okE ckE_0 ckE_1 ckE_2 fkE_0 fkE_1 fkE_2 okF ckF_0 ckF_1 ckF_2 fkF_0 fkF_1 fkF_2 okR2 ckR2_0 ckR2_1 ckR2_2 fkR2_0 fkR2_1 fkR2_2 kE kF kR2 hP5X hP6X cT hP9 hbX
    have hszV := hbV.size
    have okM := blk_older kM
    have ckM_0 : _ = some _ := blk_cell kM 0
    have ckM_1 : _ = some _ := blk_cell kM 1
    have ckM_2 : _ = some _ := blk_cell kM 2
    have fkM_0 := blk_free kM 0
    have fkM_1 := blk_free kM 1
    have fkM_2 := blk_free kM 2
    have okR3 := blk_older kR3
    have ckR3_0 : _ = some _ := blk_cell kR3 0
    have ckR3_1 : _ = some _ := blk_cell kR3 1
    have ckR3_2 : _ = some _ := blk_cell kR3 2
    have fkR3_0 := blk_free kR3 0
    have fkR3_1 := blk_free kR3 1
    have fkR3_2 := blk_free kR3 2
    by_cases hl0 : l = []
    · subst hl0
      obtain rfl : R = mz := hRm
      go_wp2_with fail
      refine post_named ?_
      intro Z hZ
      have kZ : blk Z (w.heap.size + 4) #[.int .i64 0, .int .i64 0, .slice none 0 0] 34 := by rw [hZ]; exact (by apply blk_of; (repeat (first | with_reducible exact kR3 | with_reducible apply blk_drew | with_reducible apply blk_gw | with_reducible apply blk_alloc | with_reducible apply blk_set | ((with_reducible apply blk_other); focus omega))); (first | rfl | simp))
      have hbZ : Below w.heap.size w Z := by rw [hZ]; exact bBel
      clear hZ
      have okZ := blk_older kZ
      have ckZ_0 : _ = some _ := blk_cell kZ 0
      have ckZ_1 : _ = some _ := blk_cell kZ 1
      have ckZ_2 : _ = some _ := blk_cell kZ 2
      have fkZ_0 := blk_free kZ 0
      have fkZ_1 := blk_free kZ 1
      have fkZ_2 := blk_free kZ 2
      exact bodyPost_ret (v := .tuple #[.agg #[.int .i64 0, .int .i64 0, .slice none 0 0], .bool false]) (by simp [results, Tryz.results8, go_sem, ckZ_0, ckZ_1, ckZ_2]) rfl (mnt_mk (l := []) (by decide) (Nat.le_refl _) (by decide) (fun _ => rfl) (.inl rfl) hbZ)
    · obtain rfl : R = ⟨nx, ny, l⟩ := hRm.trans (nz_pos hl0)
      clear hRm
      have z3 : ((l.length : Int) == 0) = false := by
        rw [beq_eq_false_iff_ne]; intro h; exact hl0 (List.eq_nil_of_length_eq_zero (by omega))
      go_wp2_with fail
      refine post_named ?_
      intro Z hZ
      have kZ : blk Z (w.heap.size + 4) #[.int .i64 nx, .int .i64 ny, .slice A9 l.length c9] 34 := by rw [hZ]; exact (by apply blk_of; (repeat (first | with_reducible exact kR3 | with_reducible apply blk_drew | with_reducible apply blk_gw | with_reducible apply blk_alloc | with_reducible apply blk_set | ((with_reducible apply blk_other); focus omega))); (first | rfl | simp))
      have hbZ : Below w.heap.size w Z := by rw [hZ]; exact bBel
      have hPZ : Cnts Z A9 l := by
        refine cnts_keep kR3 hP9V fun b hb => ?_
        rw [hZ]
        repeat (first | with_reducible exact sm_refl _ _ | with_reducible refine sm_gw ?_ | with_reducible refine sm_set ?_ hb)
      clear hZ
      have okZ := blk_older kZ
      have ckZ_0 : _ = some _ := blk_cell kZ 0
      have ckZ_1 : _ = some _ := blk_cell kZ 1
      have ckZ_2 : _ = some _ := blk_cell kZ 2
      have fkZ_0 := blk_free kZ 0
      have fkZ_1 := blk_free kZ 1
      have fkZ_2 := blk_free kZ 2
      exact bodyPost_ret (v := .tuple #[.agg #[.int .i64 nx, .int .i64 ny, .slice A9 l.length c9], .bool true]) (by simp [results, Tryz.results8, go_sem, ckZ_0, ckZ_1, ckZ_2]) rfl (by first | exact mnt_mk2 hle9 hmx9 hnil9 hPZ hbZ | exact mnt_mk (by exact decide_eq_true hl0) hle9 hmx9 hnil9 hPZ hbZ)

end Go.Proofs.YtiecpebckmihgaaGreat
