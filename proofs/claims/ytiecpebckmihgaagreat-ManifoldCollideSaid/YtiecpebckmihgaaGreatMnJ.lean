/- Contracts of chapter 16's reference: Collide. -/
import Derived.Test.YtiecpebckmihgaaGreatMnB
import Derived.Test.YtiecpebckmihgaaGreatMnFa
set_option linter.unusedVariables false
namespace Go.Proofs.YtiecpebckmihgaaGreat
open Go.RowKit Fx

theorem rseg17_b (R S : Int) (A B_ : Option Addr) (ca cb : Nat) (ps qs : List (Int × Int)) (h1 : 0 < ps.length) (h2 : 0 < qs.length) (hl : ps.length ≤ 1000) (hk : qs.length ≤ 1000) (M : Mn) (hM : (segM (cps (hp' ps 0).1 (hp' ps 0).2 (hp' ps (ps.length - 1)).1 (hp' ps (ps.length - 1)).2 (hp' qs 0).1 (hp' qs 0).2 (hp' qs (qs.length - 1)).1 (hp' qs (qs.length - 1)).2) R S).nz = M) (w : World) (ha : Pts w A ps) (hb : Pts w B_ qs) :
    Calls Tryz.prog 28 #[.slice A ps.length ca, .int .i64 R, .slice B_ qs.length cb, .int .i64 S] w (MnT w M (decide (M.l ≠ []))) := by
  obtain ⟨m, hm⟩ : ∃ m, ps.length = m + 1 := ⟨ps.length - 1, by omega⟩
  obtain ⟨n, hn⟩ : ∃ n, qs.length = n + 1 := ⟨qs.length - 1, by omega⟩
  rw [hm, hn, Nat.add_sub_cancel, Nat.add_sub_cancel] at hM
  rw [hm, hn]
  exact rseg16_b R S A B_ ca cb m n ps qs hm hn (by omega) (by omega) M hM w ha hb

theorem cnts_al5 {V : World} {t t' : TypeId} {c' : Array Value} {q : Gw} {A : Option Addr} {l : List Cnt} (h : Cnts (gw (V.alloc (.cells #[.int .i64 0, .int .i64 0, .slice none 0 0] t)).drew q) A l) : Cnts (gw (V.alloc (.cells c' t')).drew q) A l :=
  cnts_keep (blk_gw (blk_drew (blk_new _ _ _))) h fun b hb => sm_gw (show Sm b (V.alloc _).drew (V.alloc _).drew from ⟨(sm_alloc (o := .cells #[.int .i64 0, .int .i64 0, .slice none 0 0] t) (o' := .cells c' t') hb).1, (sm_alloc (o := .cells #[.int .i64 0, .int .i64 0, .slice none 0 0] t) (o' := .cells c' t') hb).2⟩)
def ColWay (Ka Ra Kb Rb : Int) (L1 L2 : List Pt) (R : Mn) : Prop :=
  ((Ka != 3) = true ∧ (Kb != 3) = true ∧ (segM (cps (hp' L1 0).1 (hp' L1 0).2 (hp' L1 (L1.length - 1)).1 (hp' L1 (L1.length - 1)).2 (hp' L2 0).1 (hp' L2 0).2 (hp' L2 (L2.length - 1)).1 (hp' L2 (L2.length - 1)).2) Ra Rb).nz = R) ∨
  (Ka = 3 ∧ Kb = 1 ∧ 2 ≤ L1.length ∧ (polM L1 (hp' L2 0).1 (hp' L2 0).2 Rb).nz = R) ∨
  (Ka = 1 ∧ Kb = 3 ∧ 2 ≤ L2.length ∧ (polM L2 (hp' L1 0).1 (hp' L1 0).2 Ra).nz.flip = R) ∨
  ((((Ka != 3) = false ∧ (Ka == 3) = true) ∨ ((Ka != 3) = true ∧ (Ka == 3) = false ∧ (Kb != 3) = false)) ∧ (Ka == 1) = false ∧ (Kb == 1) = false ∧ 2 ≤ L1.length ∧ 2 ≤ L2.length ∧ (facesM L1 Ra L2 Rb).nz = R)
theorem col_way (Ka Ra Kb Rb : Int) (ps qs : List Pt) (px py pa qx qy qa : Int) (v1 : valS Ka Ra ps = 0) (v2 : valS Kb Rb qs = 0) : ColWay Ka Ra Kb Rb (ps.map (tr px py pa)) (qs.map (tr qx qy qa)) (col Ka Ra ps px py pa Kb Rb qs qx qy qa) := by
  have n1 := val_len v1
  have n2 := val_len v2
  have k1 := (valS_zero.1 v1).1
  have k2 := (valS_zero.1 v2).1
  have l1 : (ps.map (tr px py pa)).length = ps.length := List.length_map _
  have l2 : (qs.map (tr qx qy qa)).length = qs.length := List.length_map _
  unfold col
  rw [if_pos ⟨v1, v2⟩]
  unfold ColWay colC
  by_cases c1 : Ka ≠ 3 ∧ Kb ≠ 3
  · rw [if_pos c1]
    exact .inl ⟨by rw [bne_iff_ne]; exact c1.1, by rw [bne_iff_ne]; exact c1.2, rfl⟩
  rw [if_neg c1]
  by_cases c2 : Kb = 1
  · rw [if_pos c2]
    have h3 : Ka = 3 := by omega
    have := n1.2.2.2.2 h3
    exact .inr (.inl ⟨h3, c2, by omega, rfl⟩)
  rw [if_neg c2]
  by_cases c3 : Ka = 1
  · rw [if_pos c3]
    have h3 : Kb = 3 := by omega
    have := n2.2.2.2.2 h3
    exact .inr (.inr (.inl ⟨c3, h3, by omega, (nz_flip _).symm⟩))
  rw [if_neg c3]
  have g1 : 2 ≤ ps.length := by
    rcases (show Ka = 2 ∨ Ka = 3 by omega) with h | h
    · have := n1.2.2.2.1 h; omega
    · have := n1.2.2.2.2 h; omega
  have g2 : 2 ≤ qs.length := by
    rcases (show Kb = 2 ∨ Kb = 3 by omega) with h | h
    · have := n2.2.2.2.1 h; omega
    · have := n2.2.2.2.2 h; omega
  refine .inr (.inr (.inr ⟨?_, by rw [beq_eq_false_iff_ne]; exact c3, by rw [beq_eq_false_iff_ne]; exact c2, by omega, by omega, rfl⟩))
  by_cases c4 : Ka = 3
  · exact .inl ⟨by rw [bne_eq_false_iff_eq]; exact c4, by rw [beq_iff_eq]; exact c4⟩
  · exact .inr ⟨by rw [bne_iff_ne]; exact c4, by rw [beq_eq_false_iff_ne]; exact c4, by rw [bne_eq_false_iff_eq]; omega⟩

set_option maxRecDepth 100000 in
set_option maxHeartbeats 32000000 in
theorem rcol16_b (Ka Ra Kb Rb : Int) (A B_ : Option Addr) (ca cb : Nat) (ps qs : List (Int × Int)) (px py pa qx qy qa : Int) (hl : ps.length ≤ 1000) (hm : qs.length ≤ 1000) (w : World) (ha : Pts w A ps) (hb : Pts w B_ qs) : Calls Tryz.prog 10 #[.agg #[.int .i64 Ka, .int .i64 Ra, .slice A ps.length ca], .agg #[.int .i64 px, .int .i64 py, .int .i64 pa], .agg #[.int .i64 Kb, .int .i64 Rb, .slice B_ qs.length cb], .agg #[.int .i64 qx, .int .i64 qy, .int .i64 qa]] w
      (MnT w (col Ka Ra ps px py pa Kb Rb qs qx qy qa) (decide ((col Ka Ra ps px py pa Kb Rb qs qx qy qa).l ≠ []))) := by
  have cV := fun w' h => rval_b Ka Ra A ca ps (by omega) w' h
  have cU := fun w' h => rval_b Kb Rb B_ cb qs (by omega) w' h
  have cX := fun w' h => (rvert_b Ka Ra A ca ps px py pa (by omega) w' h).mono fun e w'' ⟨h1, h2⟩ => (⟨h1, gw_of_below h2⟩ : _ ∧ ∃ q, w'' = gw w' q)
  have cY := fun w' h => (rvert_b Kb Rb B_ cb qs qx qy qa (by omega) w' h).mono fun e w'' ⟨h1, h2⟩ => (⟨h1, gw_of_below h2⟩ : _ ∧ ∃ q, w'' = gw w' q)
  have hcs : (((valS Ka Ra ps != 0) = true ∨ ((valS Ka Ra ps != 0) = false ∧ (valS Kb Rb qs != 0) = true)) ∧ col Ka Ra ps px py pa Kb Rb qs qx qy qa = mz) ∨ ((valS Ka Ra ps != 0) = false ∧ (valS Kb Rb qs != 0) = false ∧ core Ka Ra ps px py pa = ps.map (tr px py pa) ∧ core Kb Rb qs qx qy qa = qs.map (tr qx qy qa) ∧ (0 < (ps.map (tr px py pa)).length ∧ 0 < (qs.map (tr qx qy qa)).length ∧ (ps.map (tr px py pa)).length ≤ 1000 ∧ (qs.map (tr qx qy qa)).length ≤ 1000) ∧ ColWay Ka Ra Kb Rb (ps.map (tr px py pa)) (qs.map (tr qx qy qa)) (col Ka Ra ps px py pa Kb Rb qs qx qy qa)) := by
    by_cases v1 : valS Ka Ra ps = 0
    · by_cases v2 : valS Kb Rb qs = 0
      · have n1 := val_len v1
        have n2 := val_len v2
        exact .inr ⟨by rw [v1]; rfl, by rw [v2]; rfl, core_ok _ _ _ v1, core_ok _ _ _ v2, ⟨by rw [List.length_map]; omega, by rw [List.length_map]; omega, by rw [List.length_map]; omega, by rw [List.length_map]; omega⟩, col_way Ka Ra Kb Rb ps qs px py pa qx qy qa v1 v2⟩
      · exact .inl ⟨.inr ⟨by rw [v1]; rfl, by rw [bne_iff_ne]; exact v2⟩, if_neg fun h => v2 h.2⟩
    · exact .inl ⟨.inl (by rw [bne_iff_ne]; exact v1), if_neg fun h => v1 h.1⟩
  generalize col Ka Ra ps px py pa Kb Rb qs qx qy qa = R at *
  generalize valS Ka Ra ps = va at *
  generalize valS Kb Rb qs = vb at *
  go_enter Tryz.func10, Tryz.ntmps10
  go_upto_region 1 with fail
  refine wp_named ?_
  intro W hW
  have kA : blk W w.heap.size #[.int .i64 Ka, .int .i64 Ra, .slice A ps.length ca] 25 := by rw [hW]; exact bBkn
  have kT : blk W (w.heap.size + 1) #[.int .i64 px, .int .i64 py, .int .i64 pa] 29 := by rw [hW]; exact bBkn
  have kB : blk W (w.heap.size + 2) #[.int .i64 Kb, .int .i64 Rb, .slice B_ qs.length cb] 25 := by rw [hW]; exact bBkn
  have kU : blk W (w.heap.size + 3) #[.int .i64 qx, .int .i64 qy, .int .i64 qa] 29 := by rw [hW]; exact bBkn
  have kR : blk W (w.heap.size + 4) #[.int .i64 0, .int .i64 0, .slice none 0 0] 34 := by rw [hW]; exact bBkn
  have hbW : Below w.heap.size w W := by rw [hW]; exact bBel
  clear hW
  have hszW := hbW.size
  have haW := Pts.to ha hbW
  have hbPW := Pts.to hb hbW
  have hRW := blk_lt kR
  have okA := blk_older kA
  have ckA_0 : _ = some _ := blk_cell kA 0
  have ckA_1 : _ = some _ := blk_cell kA 1
  have ckA_2 : _ = some _ := blk_cell kA 2
  have fkA_0 := blk_free kA 0
  have fkA_1 := blk_free kA 1
  have fkA_2 := blk_free kA 2
  have okT := blk_older kT
  have ckT_0 : _ = some _ := blk_cell kT 0
  have ckT_1 : _ = some _ := blk_cell kT 1
  have ckT_2 : _ = some _ := blk_cell kT 2
  have fkT_0 := blk_free kT 0
  have fkT_1 := blk_free kT 1
  have fkT_2 := blk_free kT 2
  have okB := blk_older kB
  have ckB_0 : _ = some _ := blk_cell kB 0
  have ckB_1 : _ = some _ := blk_cell kB 1
  have ckB_2 : _ = some _ := blk_cell kB 2
  have fkB_0 := blk_free kB 0
  have fkB_1 := blk_free kB 1
  have fkB_2 := blk_free kB 2
  have okU := blk_older kU
  have ckU_0 : _ = some _ := blk_cell kU 0
  have ckU_1 : _ = some _ := blk_cell kU 1
  have ckU_2 : _ = some _ := blk_cell kU 2
  have fkU_0 := blk_free kU 0
  have fkU_1 := blk_free kU 1
  have fkU_2 := blk_free kU 2
  have okR := blk_older kR
  have ckR_0 : _ = some _ := blk_cell kR 0
  have ckR_1 : _ = some _ := blk_cell kR 1
  have ckR_2 : _ = some _ := blk_cell kR 2
  have fkR_0 := blk_free kR 0
  have fkR_1 := blk_free kR 1
  have fkR_2 := blk_free kR 2
  rcases hcs with ⟨hno, rfl⟩ | ⟨va0, vb0, eA, eB, ⟨p1, p2, p3, p4⟩, hway⟩
  · clear cX cY
    rcases hno with va1 | ⟨va0, vb1⟩
    · go_wp2_with (first | (go_at_call 9; refine Calls.mono (gw_at (cV _ (Pts.to haW bBel))) ?_; rintro e w1 ⟨rfl, q7, rfl⟩))
      refine post_named ?_
      intro Z hZ
      have kZ : blk Z (w.heap.size + 4) #[.int .i64 0, .int .i64 0, .slice none 0 0] 34 := by rw [hZ]; exact (by apply blk_of; (repeat (first | with_reducible exact kR | with_reducible apply blk_drew | with_reducible apply blk_gw | with_reducible apply blk_alloc | with_reducible apply blk_set | ((with_reducible apply blk_other); focus omega))); (first | rfl | simp))
      have hbZ : Below w.heap.size w Z := by rw [hZ]; exact bBel
      clear hZ
      have okZ := blk_older kZ
      have ckZ_0 : _ = some _ := blk_cell kZ 0
      have ckZ_1 : _ = some _ := blk_cell kZ 1
      have ckZ_2 : _ = some _ := blk_cell kZ 2
      have fkZ_0 := blk_free kZ 0
      have fkZ_1 := blk_free kZ 1
      have fkZ_2 := blk_free kZ 2
      exact bodyPost_ret (v := .tuple #[.agg #[.int .i64 0, .int .i64 0, .slice none 0 0], .bool false]) (by simp [results, Tryz.results10, go_sem, ckZ_0, ckZ_1, ckZ_2]) rfl (mnt_mk (l := []) (by decide) (Nat.le_refl _) (by decide) (fun _ => rfl) (.inl rfl) hbZ)
    · go_wp2_with (first | (go_at_call 9; (with_reducible show Calls _ _ #[.agg #[.int .i64 Ka, _, .slice A _ _]] _ _); refine Calls.mono (gw_at (cV _ (Pts.to haW bBel))) ?_; rintro e w1 ⟨rfl, q7, rfl⟩) | (go_at_call 9; (with_reducible show Calls _ _ #[.agg #[.int .i64 Kb, _, .slice B_ _ _]] _ _); refine Calls.mono (gw_at (cU _ (Pts.to hbPW bBel))) ?_; rintro e w1 ⟨rfl, q8, rfl⟩))
      refine post_named ?_
      intro Z hZ
      have kZ : blk Z (w.heap.size + 4) #[.int .i64 0, .int .i64 0, .slice none 0 0] 34 := by rw [hZ]; exact (by apply blk_of; (repeat (first | with_reducible exact kR | with_reducible apply blk_drew | with_reducible apply blk_gw | with_reducible apply blk_alloc | with_reducible apply blk_set | ((with_reducible apply blk_other); focus omega))); (first | rfl | simp))
      have hbZ : Below w.heap.size w Z := by rw [hZ]; exact bBel
      clear hZ
      have okZ := blk_older kZ
      have ckZ_0 : _ = some _ := blk_cell kZ 0
      have ckZ_1 : _ = some _ := blk_cell kZ 1
      have ckZ_2 : _ = some _ := blk_cell kZ 2
      have fkZ_0 := blk_free kZ 0
      have fkZ_1 := blk_free kZ 1
      have fkZ_2 := blk_free kZ 2
      exact bodyPost_ret (v := .tuple #[.agg #[.int .i64 0, .int .i64 0, .slice none 0 0], .bool false]) (by simp [results, Tryz.results10, go_sem, ckZ_0, ckZ_1, ckZ_2]) rfl (mnt_mk (l := []) (by decide) (Nat.le_refl _) (by decide) (fun _ => rfl) (.inl rfl) hbZ)
  rw [eA] at cX
  rw [eB] at cY
  clear eA eB
  generalize ps.map (tr px py pa) = L1 at *
  generalize qs.map (tr qx qy qa) = L2 at *
  have hwH : Hid (ColWay _ _ _ _ _ _ _) := hway
  clear hway
  go_upto_region 3 with (first | (go_at_call 9; (with_reducible show Calls _ _ #[.agg #[.int .i64 Ka, _, .slice A _ _]] _ _); refine Calls.mono (gw_at (cV _ (Pts.to haW bBel))) ?_; rintro e w1 ⟨rfl, q7, rfl⟩) | (go_at_call 9; (with_reducible show Calls _ _ #[.agg #[.int .i64 Kb, _, .slice B_ _ _]] _ _); refine Calls.mono (gw_at (cU _ (Pts.to hbPW bBel))) ?_; rintro e w1 ⟨rfl, q8, rfl⟩))
  refine wp_named ?_
  intro X hX
  have hbWX : Below W.heap.size W X := by rw [hX]; exact bBel
  clear hX okA ckA_0 ckA_1 ckA_2 fkA_0 fkA_1 fkA_2 okT ckT_0 ckT_1 ckT_2 fkT_0 fkT_1 fkT_2 okB ckB_0 ckB_1 ckB_2 fkB_0 fkB_1 fkB_2 okU ckU_0 ckU_1 ckU_2 fkU_0 fkU_1 fkU_2 okR ckR_0 ckR_1 ckR_2 fkR_0 fkR_1 fkR_2 cV cU va0 vb0
  have kA1 := blk_below hbWX kA
  have kT1 := blk_below hbWX kT
  have kB1 := blk_below hbWX kB
  have kU1 := blk_below hbWX kU
  have kR1 := blk_below hbWX kR
  have haX := Pts.to haW hbWX
  have hbPX := Pts.to hbPW hbWX
  have hbX : Below w.heap.size w X := Below.trans hbW (hbWX.mono hszW)
  clear kA kT kB kU kR haW hbPW hbW hbWX hszW hRW
  have hszX := hbX.size
  have okA1 := blk_older kA1
  have ckA1_0 : _ = some _ := blk_cell kA1 0
  have ckA1_1 : _ = some _ := blk_cell kA1 1
  have ckA1_2 : _ = some _ := blk_cell kA1 2
  have fkA1_0 := blk_free kA1 0
  have fkA1_1 := blk_free kA1 1
  have fkA1_2 := blk_free kA1 2
  have okT1 := blk_older kT1
  have ckT1_0 : _ = some _ := blk_cell kT1 0
  have ckT1_1 : _ = some _ := blk_cell kT1 1
  have ckT1_2 : _ = some _ := blk_cell kT1 2
  have fkT1_0 := blk_free kT1 0
  have fkT1_1 := blk_free kT1 1
  have fkT1_2 := blk_free kT1 2
  have okB1 := blk_older kB1
  have ckB1_0 : _ = some _ := blk_cell kB1 0
  have ckB1_1 : _ = some _ := blk_cell kB1 1
  have ckB1_2 : _ = some _ := blk_cell kB1 2
  have fkB1_0 := blk_free kB1 0
  have fkB1_1 := blk_free kB1 1
  have fkB1_2 := blk_free kB1 2
  have okU1 := blk_older kU1
  have ckU1_0 : _ = some _ := blk_cell kU1 0
  have ckU1_1 : _ = some _ := blk_cell kU1 1
  have ckU1_2 : _ = some _ := blk_cell kU1 2
  have fkU1_0 := blk_free kU1 0
  have fkU1_1 := blk_free kU1 1
  have fkU1_2 := blk_free kU1 2
  first
    | (refine wp_mix 8 [0, 0, 3, 0, 0, 31, 63, 127] [] [0, 1, 2, 3, 4, 5, 6, 7] (by kernel_rfl) (by decide +kernel) ?_
       repeat (first | (refine mix_skip (by rfl) (by rfl) (by rfl) (by rfl) ?_) | (refine mix_early (by rfl) (by rfl) (by rfl) ?_; go_big_quiet_step (fail); with_reducible refine wpQuiet_nil ?_) | (refine mix_late (by rfl) (by rfl) (by rfl) ?_; go_big_quiet_step (fail); with_reducible refine wpQuiet_nil ?_) | (refine mix_call (by rfl) (by rfl) (by rfl) ?_; intro pM Qs hQs; go_wp2_with (first | (go_at_call 27; (with_reducible show Calls _ _ #[.agg #[.int .i64 Ka, .int .i64 Ra, .slice A _ _], _] _ _); refine Calls.mono (cX _ (Pts.to haX bBel)) ?_; rintro e w1 ⟨⟨A5, c5, rfl, hle5, hmx5, hP5⟩, q5, rfl⟩) | (go_at_call 27; (with_reducible show Calls _ _ #[.agg #[.int .i64 Kb, .int .i64 Rb, .slice B_ _ _], _] _ _); refine Calls.mono (cY _ (Pts.to hbPX bBel)) ?_; rintro e w1 ⟨⟨A6, c6, rfl, hle6, hmx6, hP6⟩, q6, rfl⟩)); refine hQs _ _ bBel ?_))
       refine mix_end ?_
       intro pE
       simp only [List.drop_succ_cons, List.drop_zero])
    | (refine wp_mix 9 [0, 0, 2, 6, 0, 16, 63, 127, 127, 511, 1023] [] [0, 1, 2, 3, 4, 5, 6, 7, 8] (by kernel_rfl) (by decide +kernel) ?_
       repeat (first | (refine mix_skip (by rfl) (by rfl) (by rfl) (by rfl) ?_) | (refine mix_early (by rfl) (by rfl) (by rfl) ?_; go_big_quiet_step (fail); with_reducible refine wpQuiet_nil ?_) | (refine mix_late (by rfl) (by rfl) (by rfl) ?_; go_big_quiet_step (fail); with_reducible refine wpQuiet_nil ?_) | (refine mix_call (by rfl) (by rfl) (by rfl) ?_; intro pM Qs hQs; go_wp2_with (first | (go_at_call 27; (with_reducible show Calls _ _ #[.agg #[.int .i64 Ka, .int .i64 Ra, .slice A _ _], _] _ _); refine Calls.mono (cX _ (Pts.to haX bBel)) ?_; rintro e w1 ⟨⟨A5, c5, rfl, hle5, hmx5, hP5⟩, q5, rfl⟩) | (go_at_call 27; (with_reducible show Calls _ _ #[.agg #[.int .i64 Kb, .int .i64 Rb, .slice B_ _ _], _] _ _); refine Calls.mono (cY _ (Pts.to hbPX bBel)) ?_; rintro e w1 ⟨⟨A6, c6, rfl, hle6, hmx6, hP6⟩, q6, rfl⟩)); refine hQs _ _ bBel ?_))
       refine mix_end ?_
       intro pE
       simp only [List.drop_succ_cons, List.drop_zero])
    | (refine wp_mix 11 [0, 0, 2, 6, 0, 16, 63, 127, 255, 255, 0, 1535, 4095] [] [0, 1, 2, 3, 4, 5, 6, 7, 8, 9, 10] (by kernel_rfl) (by decide +kernel) ?_
       repeat (first | (refine mix_skip (by rfl) (by rfl) (by rfl) (by rfl) ?_) | (refine mix_early (by rfl) (by rfl) (by rfl) ?_; go_big_quiet_step (fail); with_reducible refine wpQuiet_nil ?_) | (refine mix_late (by rfl) (by rfl) (by rfl) ?_; go_big_quiet_step (fail); with_reducible refine wpQuiet_nil ?_) | (refine mix_call (by rfl) (by rfl) (by rfl) ?_; intro pM Qs hQs; go_wp2_with (first | (go_at_call 27; (with_reducible show Calls _ _ #[.agg #[.int .i64 Ka, .int .i64 Ra, .slice A _ _], _] _ _); refine Calls.mono (cX _ (Pts.to haX bBel)) ?_; rintro e w1 ⟨⟨A5, c5, rfl, hle5, hmx5, hP5⟩, q5, rfl⟩) | (go_at_call 27; (with_reducible show Calls _ _ #[.agg #[.int .i64 Kb, .int .i64 Rb, .slice B_ _ _], _] _ _); refine Calls.mono (cY _ (Pts.to hbPX bBel)) ?_; rintro e w1 ⟨⟨A6, c6, rfl, hle6, hmx6, hP6⟩, q6, rfl⟩)); refine hQs _ _ bBel ?_))
       refine mix_end ?_
       intro pE
       simp only [List.drop_succ_cons, List.drop_zero])
  go_upto_region 4 with fail
  refine wp_named ?_
  intro V hV
  have kA2 : blk V w.heap.size #[.int .i64 Ka, .int .i64 Ra, .slice A ps.length ca] 25 := by rw [hV]; exact (by apply blk_of; (repeat (first | with_reducible exact kA1 | with_reducible apply blk_drew | with_reducible apply blk_gw | with_reducible apply blk_alloc | with_reducible apply blk_set | ((with_reducible apply blk_other); focus omega))); (first | rfl | simp))
  have kB2 : blk V (w.heap.size + 2) #[.int .i64 Kb, .int .i64 Rb, .slice B_ qs.length cb] 25 := by rw [hV]; exact (by apply blk_of; (repeat (first | with_reducible exact kB1 | with_reducible apply blk_drew | with_reducible apply blk_gw | with_reducible apply blk_alloc | with_reducible apply blk_set | ((with_reducible apply blk_other); focus omega))); (first | rfl | simp))
  have kR2 : blk V (w.heap.size + 4) #[.int .i64 0, .int .i64 0, .slice none 0 0] 34 := by rw [hV]; exact (by apply blk_of; (repeat (first | with_reducible exact kR1 | with_reducible apply blk_drew | with_reducible apply blk_gw | with_reducible apply blk_alloc | with_reducible apply blk_set | ((with_reducible apply blk_other); focus omega))); (first | rfl | simp))
  have hbV : Below w.heap.size w V := by rw [hV]; exact bBel
  have hP5V : Pts V A5 L1 := by rw [hV]; exact Pts.to hP5 bBel
  have hP6V : Pts V A6 L2 := by rw [hV]; exact Pts.to hP6 bBel
  clear hV okA1 ckA1_0 ckA1_1 ckA1_2 fkA1_0 fkA1_1 fkA1_2 okT1 ckT1_0 ckT1_1 ckT1_2 fkT1_0 fkT1_1 fkT1_2 okB1 ckB1_0 ckB1_1 ckB1_2 fkB1_0 fkB1_1 fkB1_2 okU1 ckU1_0 ckU1_1 ckU1_2 fkU1_0 fkU1_1 fkU1_2 kA1 kT1 kB1 kU1 kR1 cX cY haX hbPX hbX hszX hP5 hP6
  have hszV := hbV.size
  have hRV := blk_lt kR2
  have okA2 := blk_older kA2
  have ckA2_0 : _ = some _ := blk_cell kA2 0
  have ckA2_1 : _ = some _ := blk_cell kA2 1
  have ckA2_2 : _ = some _ := blk_cell kA2 2
  have fkA2_0 := blk_free kA2 0
  have fkA2_1 := blk_free kA2 1
  have fkA2_2 := blk_free kA2 2
  have okB2 := blk_older kB2
  have ckB2_0 : _ = some _ := blk_cell kB2 0
  have ckB2_1 : _ = some _ := blk_cell kB2 1
  have ckB2_2 : _ = some _ := blk_cell kB2 2
  have fkB2_0 := blk_free kB2 0
  have fkB2_1 := blk_free kB2 1
  have fkB2_2 := blk_free kB2 2
  have okR2 := blk_older kR2
  have ckR2_0 : _ = some _ := blk_cell kR2 0
  have ckR2_1 : _ = some _ := blk_cell kR2 1
  have ckR2_2 : _ = some _ := blk_cell kR2 2
  have fkR2_0 := blk_free kR2 0
  have fkR2_1 := blk_free kR2 1
  have fkR2_2 := blk_free kR2 2
  obtain ⟨nx, ny, l⟩ := R
  rcases hwH.out with ⟨g1, g2, hR⟩ | ⟨rfl, rfl, g2, hR⟩ | ⟨rfl, rfl, g2, hR⟩ | ⟨hor, g1, g2, g3, g4, hR⟩
  · have cC := fun w' h1 h2 => mnt_ex (rseg17_b Ra Rb A5 A6 c5 c6 L1 L2 p1 p2 p3 p4 _ hR w' h1 h2)
    dsimp only at cC
    obtain ⟨bo, hbo⟩ : ∃ x, decide (l ≠ []) = x := ⟨_, rfl⟩
    rw [hbo] at cC
    have hboH : Hid (_ = bo) := hbo
    clear hR hbo hwH
    go_wp2_with (go_at_call 28; refine Calls.mono (cC _ (Pts.to hP5V bBel) (Pts.to hP6V bBel)) ?_; rintro e w1 ⟨⟨A9, c9, rfl, hle9, hmx9, hnil9, hP9⟩, q9, rfl⟩)
    refine post_named ?_
    intro Z hZ
    have kZ : blk Z (w.heap.size + 4) #[.int .i64 nx, .int .i64 ny, .slice A9 l.length c9] 34 := by rw [hZ]; exact (by apply blk_of; (repeat (first | with_reducible exact kR2 | with_reducible apply blk_drew | with_reducible apply blk_gw | with_reducible apply blk_alloc | with_reducible apply blk_set | ((with_reducible apply blk_other); focus omega))); (first | rfl | simp))
    have hbZ : Below w.heap.size w Z := by rw [hZ]; exact bBel
    have hPZ : Cnts Z A9 l := by
      refine cnts_keep (E := w.heap.size + 4) (x := 0) (y := 0) (B := none) (n := 0) (c := 0) (t := 34) (by apply blk_of; (repeat (first | with_reducible exact kR2 | with_reducible apply blk_drew | with_reducible apply blk_gw | with_reducible apply blk_alloc | with_reducible apply blk_set | ((with_reducible apply blk_other); focus omega))); (first | rfl | simp)) hP9 fun b hb => ?_
      rw [hZ]
      repeat (first | with_reducible exact sm_refl _ _ | with_reducible refine sm_gw ?_ | with_reducible refine sm_set ?_ hb)
    clear hZ
    have okZ := blk_older kZ
    have ckZ_0 : _ = some _ := blk_cell kZ 0
    have ckZ_1 : _ = some _ := blk_cell kZ 1
    have ckZ_2 : _ = some _ := blk_cell kZ 2
    have fkZ_0 := blk_free kZ 0
    have fkZ_1 := blk_free kZ 1
    have fkZ_2 := blk_free kZ 2
    exact bodyPost_ret (v := .tuple #[.agg #[.int .i64 nx, .int .i64 ny, .slice A9 l.length c9], .bool bo]) (by simp [results, Tryz.results10, go_sem, ckZ_0, ckZ_1, ckZ_2]) rfl (mnt_mk3 rfl (by have e := hboH.out; clear hboH; cases l <;> simpa using e) hle9 hmx9 hnil9 hPZ hbZ)
  · have x5 : (0 : Int) < (L2.length : Int) := by omega
    obtain ⟨b6, o6, rfl, hc6⟩ := pts_open0 hP6V p2
    obtain ⟨d0, d1⟩ := hc6 0 p2
    rw [Nat.zero_mul, Nat.add_zero] at d0 d1
    rw [hp_get p2] at hR
    have od := older_of_cell d0
    generalize (L2[0]'p2).1 = cx at *
    generalize (L2[0]'p2).2 = cy at *
    have cC := fun w' h1 => mnt_ex (rpol16_b Rb A5 c5 L1 cx cy g2 p3 _ hR w' h1)
    dsimp only at cC
    obtain ⟨bo, hbo⟩ : ∃ x, decide (l ≠ []) = x := ⟨_, rfl⟩
    rw [hbo] at cC
    have hboH : Hid (_ = bo) := hbo
    clear hR hbo hwH hc6
    go_upto_region 7 with fail
    first
      | (refine wp_mix 8 [0, 0, 3, 0, 0, 31, 63, 127] [] [0, 1, 2, 3, 4, 5, 6, 7] (by kernel_rfl) (by decide +kernel) ?_
         repeat (first | (refine mix_skip (by rfl) (by rfl) (by rfl) (by rfl) ?_) | (refine mix_early (by rfl) (by rfl) (by rfl) ?_; go_big_quiet_step (fail); with_reducible refine wpQuiet_nil ?_) | (refine mix_late (by rfl) (by rfl) (by rfl) ?_; go_big_quiet_step (fail); with_reducible refine wpQuiet_nil ?_) | (refine mix_call (by rfl) (by rfl) (by rfl) ?_; intro pM Qs hQs; go_wp2_with (go_at_call 29; refine Calls.mono (cC _ (Pts.to hP5V bBel)) ?_; rintro e w1 ⟨⟨A9, c9, rfl, hle9, hmx9, hnil9, hP9⟩, q9, rfl⟩); refine hQs _ _ bBel ?_))
         refine mix_end ?_
         intro pE
         simp only [List.drop_succ_cons, List.drop_zero])
      | (refine wp_mix 9 [0, 0, 2, 6, 0, 16, 63, 127, 127, 511, 1023] [] [0, 1, 2, 3, 4, 5, 6, 7, 8] (by kernel_rfl) (by decide +kernel) ?_
         repeat (first | (refine mix_skip (by rfl) (by rfl) (by rfl) (by rfl) ?_) | (refine mix_early (by rfl) (by rfl) (by rfl) ?_; go_big_quiet_step (fail); with_reducible refine wpQuiet_nil ?_) | (refine mix_late (by rfl) (by rfl) (by rfl) ?_; go_big_quiet_step (fail); with_reducible refine wpQuiet_nil ?_) | (refine mix_call (by rfl) (by rfl) (by rfl) ?_; intro pM Qs hQs; go_wp2_with (go_at_call 29; refine Calls.mono (cC _ (Pts.to hP5V bBel)) ?_; rintro e w1 ⟨⟨A9, c9, rfl, hle9, hmx9, hnil9, hP9⟩, q9, rfl⟩); refine hQs _ _ bBel ?_))
         refine mix_end ?_
         intro pE
         simp only [List.drop_succ_cons, List.drop_zero])
      | (refine wp_mix 11 [0, 0, 2, 6, 0, 16, 63, 127, 255, 255, 0, 1535, 4095] [] [0, 1, 2, 3, 4, 5, 6, 7, 8, 9, 10] (by kernel_rfl) (by decide +kernel) ?_
         repeat (first | (refine mix_skip (by rfl) (by rfl) (by rfl) (by rfl) ?_) | (refine mix_early (by rfl) (by rfl) (by rfl) ?_; go_big_quiet_step (fail); with_reducible refine wpQuiet_nil ?_) | (refine mix_late (by rfl) (by rfl) (by rfl) ?_; go_big_quiet_step (fail); with_reducible refine wpQuiet_nil ?_) | (refine mix_call (by rfl) (by rfl) (by rfl) ?_; intro pM Qs hQs; go_wp2_with (go_at_call 29; refine Calls.mono (cC _ (Pts.to hP5V bBel)) ?_; rintro e w1 ⟨⟨A9, c9, rfl, hle9, hmx9, hnil9, hP9⟩, q9, rfl⟩); refine hQs _ _ bBel ?_))
         refine mix_end ?_
         intro pE
         simp only [List.drop_succ_cons, List.drop_zero])
    refine list_nm ?_
    intro Y hY
    have kR7 : blk Y (w.heap.size + 4) #[.int .i64 0, .int .i64 0, .slice none 0 0] 34 := by rw [hY]; exact (by apply blk_of; (repeat (first | with_reducible exact kR2 | with_reducible apply blk_drew | with_reducible apply blk_gw | with_reducible apply blk_alloc | with_reducible apply blk_set | ((with_reducible apply blk_other); focus omega))); (first | rfl | simp))
    have hbY : Below w.heap.size w Y := by rw [hY]; exact bBel
    have hP9Y : Cnts Y A9 l := by rw [hY]; exact Cnts.to hP9 bBel
    clear hY hP9 okA2 ckA2_0 ckA2_1 ckA2_2 fkA2_0 fkA2_1 fkA2_2 okB2 ckB2_0 ckB2_1 ckB2_2 fkB2_0 fkB2_1 fkB2_2 okR2 ckR2_0 ckR2_1 ckR2_2 fkR2_0 fkR2_1 fkR2_2 kA2 kB2 kR2 cC d0 d1 od hP5V hP6V hbV hszV
    have hszY := hbY.size
    have hRY := blk_lt kR7
    have okR7 := blk_older kR7
    have ckR7_0 : _ = some _ := blk_cell kR7 0
    have ckR7_1 : _ = some _ := blk_cell kR7 1
    have ckR7_2 : _ = some _ := blk_cell kR7 2
    have fkR7_0 := blk_free kR7 0
    have fkR7_1 := blk_free kR7 1
    have fkR7_2 := blk_free kR7 2
    go_wp2_with fail
    refine post_named ?_
    intro Z hZ
    have kZ : blk Z (w.heap.size + 4) #[.int .i64 nx, .int .i64 ny, .slice A9 l.length c9] 34 := by rw [hZ]; exact (by apply blk_of; (repeat (first | with_reducible exact kR7 | with_reducible apply blk_drew | with_reducible apply blk_gw | with_reducible apply blk_alloc | with_reducible apply blk_set | ((with_reducible apply blk_other); focus omega))); (first | rfl | simp))
    have hbZ : Below w.heap.size w Z := by rw [hZ]; exact bBel
    have hPZ : Cnts Z A9 l := by
      refine cnts_keep (E := w.heap.size + 4) (x := 0) (y := 0) (B := none) (n := 0) (c := 0) (t := 34) (by apply blk_of; (repeat (first | with_reducible exact kR7 | with_reducible apply blk_drew | with_reducible apply blk_gw | with_reducible apply blk_alloc | with_reducible apply blk_set | ((with_reducible apply blk_other); focus omega))); (first | rfl | simp)) hP9Y fun b hb => ?_
      rw [hZ]
      repeat (first | with_reducible exact sm_refl _ _ | with_reducible refine sm_gw ?_ | with_reducible refine sm_set ?_ hb)
    clear hZ
    have okZ := blk_older kZ
    have ckZ_0 : _ = some _ := blk_cell kZ 0
    have ckZ_1 : _ = some _ := blk_cell kZ 1
    have ckZ_2 : _ = some _ := blk_cell kZ 2
    have fkZ_0 := blk_free kZ 0
    have fkZ_1 := blk_free kZ 1
    have fkZ_2 := blk_free kZ 2
    exact bodyPost_ret (v := .tuple #[.agg #[.int .i64 nx, .int .i64 ny, .slice A9 l.length c9], .bool bo]) (by simp [results, Tryz.results10, go_sem, ckZ_0, ckZ_1, ckZ_2]) rfl (mnt_mk3 rfl (by have e := hboH.out; clear hboH; cases l <;> simpa using e) hle9 hmx9 hnil9 hPZ hbZ)
  · have x5 : (0 : Int) < (L1.length : Int) := by omega
    obtain ⟨b5, o5, rfl, hc5⟩ := pts_open0 hP5V p1
    obtain ⟨d0, d1⟩ := hc5 0 p1
    rw [Nat.zero_mul, Nat.add_zero] at d0 d1
    rw [hp_get p1] at hR
    have od := older_of_cell d0
    generalize (L1[0]'p1).1 = cx at *
    generalize (L1[0]'p1).2 = cy at *
    have cC := fun w' h1 => mnt_ex (rpol16_b Ra A6 c6 L2 cx cy g2 p4 _ rfl w' h1)
    have hok : (polM L2 cx cy Ra).ok := ok_one _ _ _ _ _
    have hlen : (polM L2 cx cy Ra).nz.l.length ≤ 1000000 := by
      rw [nz_l]
      rcases hok.2 with h | ⟨c, h⟩ | ⟨c, d, h, _⟩ <;> rw [h] <;> simp
    clear hok
    generalize (polM L2 cx cy Ra).nz = N at *
    obtain ⟨mx, my, ml⟩ := N
    have hR' : (⟨ng mx, ng my, ml⟩ : Mn) = ⟨nx, ny, l⟩ := hR
    injection hR' with r1 r2 r3
    subst r1 r2 r3
    dsimp only at cC hlen
    obtain ⟨bo, hbo⟩ : ∃ x, decide (ml ≠ []) = x := ⟨_, rfl⟩
    rw [hbo] at cC
    have hboH : Hid (_ = bo) := hbo
    have cF := fun A' c' h1 h2 w' h => mnf_ex (rflip16_b mx my A' c' ml hlen h1 h2 w' h)
    dsimp only at cF
    clear hR hbo hwH hc5
    go_upto_region 9 with fail
    have hlt5 : b5 < V.heap.size := World.block_lt_of_cell? V ⟨b5, o5, none⟩ d0
    have hcellB : ∀ w', Below V.heap.size V w' → Below V.heap.size V w' ∧ w'.cell? ⟨w.heap.size, 1, none⟩ = some (.int .i64 Ra) ∧ w'.cell? ⟨b5, o5, none⟩ = some (.int .i64 cx) ∧ w'.cell? ⟨b5, o5 + 1, none⟩ = some (.int .i64 cy) := fun w' h => ⟨h, (h.cell (p := ⟨w.heap.size, 1, none⟩) (blk_lt kA2)).trans (blk_cell kA2 1), (h.cell (p := ⟨b5, o5, none⟩) hlt5).trans d0, (h.cell (p := ⟨b5, o5 + 1, none⟩) hlt5).trans d1⟩
    go_cut [12, 13] (fun s12 s13 wx => ∃ (b7 : Nat) (A9 : Option Addr) (c9 : Nat), s12 = .pointer (some ⟨b7, 0, none⟩) ∧ s13 = .bool bo ∧ V.heap.size ≤ b7 ∧ blk wx b7 #[.int .i64 mx, .int .i64 my, .slice A9 ml.length c9] 34 ∧ Below V.heap.size V wx ∧ (ml.length ≤ c9 ∧ c9 ≤ maxLen ∧ (A9 = none → c9 = 0)) ∧ Cnts wx A9 ml)
    case first =>
      have n6 : 0 < L1.length := p1
      generalize L1.length = N1 at *
      go_region_held3 (fun w' => Below V.heap.size V w' ∧ w'.cell? ⟨w.heap.size, 1, none⟩ = some (.int .i64 Ra) ∧ w'.cell? ⟨b5, o5, none⟩ = some (.int .i64 cx) ∧ w'.cell? ⟨b5, o5 + 1, none⟩ = some (.int .i64 cy)) (first | (refine hcellB _ ?_; exact bBel)) ((go_at_call 29; refine Calls.mono (cC _ (Pts.to hP6V bBel)) ?_; rintro e w1 ⟨⟨A9, c9, rfl, hle9, hmx9, hnil9, hP9⟩, q9, rfl⟩))
      all_goals
        go_wp2_with fail
      all_goals
        go_meet
        exact ⟨_, _, _, rfl, rfl, by (try simp); (try omega), (by first | exact bBkn | (apply blk_of; (repeat (first | with_reducible apply blk_set | with_reducible apply blk_gw | with_reducible apply blk_drew | with_reducible apply blk_alloc | with_reducible exact blk_new _ _ _ | ((with_reducible refine blk_at ?_); (simp; done)))); (first | rfl | simp))), bBel, ⟨hle9, hmx9, hnil9⟩, (by first | exact Cnts.to hP9 (Below.alloc (Below.refl _ _) (Nat.le_refl _) _) | exact cnts_al1 hP9 | exact cnts_al2 hP9 | exact cnts_al3 hP9 | exact cnts_al5 hP9)⟩
    case rest =>
    obtain ⟨b7, A9, c9, rfl, rfl, n7, kE, hbVX, ⟨hle9, hmx9, hnil9⟩, hP9X⟩ := hcut
    generalize wc = X at *
    have kR8 := blk_below hbVX kR2
    have hR7 : w.heap.size + 4 < b7 := Nat.lt_of_lt_of_le hRV n7
    have hbX : Below w.heap.size w X := Below.trans hbV (hbVX.mono hszV)
    clear hcellB okA2 ckA2_0 ckA2_1 ckA2_2 fkA2_0 fkA2_1 fkA2_2 okB2 ckB2_0 ckB2_1 ckB2_2 fkB2_0 fkB2_1 fkB2_2 okR2 ckR2_0 ckR2_1 ckR2_2 fkR2_0 fkR2_1 fkR2_2 kA2 kB2 kR2 cC d0 d1 od hP6V hbV hszV hbVX
    have hszX := hbX.size
    have hRX := blk_lt kR8
    have okE := blk_older kE
    have ckE_0 : _ = some _ := blk_cell kE 0
    have ckE_1 : _ = some _ := blk_cell kE 1
    have ckE_2 : _ = some _ := blk_cell kE 2
    have fkE_0 := blk_free kE 0
    have fkE_1 := blk_free kE 1
    have fkE_2 := blk_free kE 2
    have okR8 := blk_older kR8
    have ckR8_0 : _ = some _ := blk_cell kR8 0
    have ckR8_1 : _ = some _ := blk_cell kR8 1
    have ckR8_2 : _ = some _ := blk_cell kR8 2
    have fkR8_0 := blk_free kR8 0
    have fkR8_1 := blk_free kR8 1
    have fkR8_2 := blk_free kR8 2
    go_wp2_with (go_at_call 30; refine Calls.mono (cF _ _ hle9 hnil9 _ (Cnts.to hP9X bBel)) ?_; rintro e w1 ⟨⟨A0, c0, rfl, hle0, hmx0, hnil0, hP0, hF0⟩, q0, rfl⟩)
    refine post_named ?_
    intro Z hZ
    have kZ : blk Z (w.heap.size + 4) #[.int .i64 (ng mx), .int .i64 (ng my), .slice A0 ml.length c0] 34 := by rw [hZ]; exact (by apply blk_of; (repeat (first | with_reducible exact kR8 | with_reducible apply blk_drew | with_reducible apply blk_gw | with_reducible apply blk_alloc | with_reducible apply blk_set | ((with_reducible apply blk_other); focus omega))); (first | rfl | simp))
    have hbZ : Below w.heap.size w Z := by rw [hZ]; exact bBel
    have hPZ : Cnts Z A0 ml := by
      refine cnts_keep (E := w.heap.size + 4) (x := 0) (y := 0) (B := none) (n := 0) (c := 0) (t := 34) (by apply blk_of; (repeat (first | with_reducible exact kR8 | with_reducible apply blk_drew | with_reducible apply blk_gw | with_reducible apply blk_alloc | with_reducible apply blk_set | ((with_reducible apply blk_other); focus omega))); (first | rfl | simp)) hP0 fun b hb => ?_
      rw [hZ]
      repeat (first | with_reducible exact sm_refl _ _ | with_reducible refine sm_gw ?_ | with_reducible refine sm_set ?_ hb)
    clear hZ
    have okZ := blk_older kZ
    have ckZ_0 : _ = some _ := blk_cell kZ 0
    have ckZ_1 : _ = some _ := blk_cell kZ 1
    have ckZ_2 : _ = some _ := blk_cell kZ 2
    have fkZ_0 := blk_free kZ 0
    have fkZ_1 := blk_free kZ 1
    have fkZ_2 := blk_free kZ 2
    exact bodyPost_ret (v := .tuple #[.agg #[.int .i64 (ng mx), .int .i64 (ng my), .slice A0 ml.length c0], .bool bo]) (by simp [results, Tryz.results10, go_sem, ckZ_0, ckZ_1, ckZ_2]) rfl (mnt_mk3 rfl (by have e := hboH.out; clear hboH; cases ml <;> simpa using e) hle0 hmx0 hnil0 hPZ hbZ)
  · have cC := fun w' h1 h2 => mnt_ex (rfaces16_b Ra Rb A5 A6 c5 c6 L1 L2 g3 g4 p3 p4 _ hR w' h1 h2)
    dsimp only at cC
    obtain ⟨bo, hbo⟩ : ∃ x, decide (l ≠ []) = x := ⟨_, rfl⟩
    rw [hbo] at cC
    have hboH : Hid (_ = bo) := hbo
    clear hR hbo hwH
    rcases hor with ⟨t1, t2⟩ | ⟨t1, t2, t3⟩
    · go_wp2_with (go_at_call 31; refine Calls.mono (cC _ (Pts.to hP5V bBel) (Pts.to hP6V bBel)) ?_; rintro e w1 ⟨⟨A9, c9, rfl, hle9, hmx9, hnil9, hP9⟩, q9, rfl⟩)
      refine post_named ?_
      intro Z hZ
      have kZ : blk Z (w.heap.size + 4) #[.int .i64 nx, .int .i64 ny, .slice A9 l.length c9] 34 := by rw [hZ]; exact (by apply blk_of; (repeat (first | with_reducible exact kR2 | with_reducible apply blk_drew | with_reducible apply blk_gw | with_reducible apply blk_alloc | with_reducible apply blk_set | ((with_reducible apply blk_other); focus omega))); (first | rfl | simp))
      have hbZ : Below w.heap.size w Z := by rw [hZ]; exact bBel
      have hPZ : Cnts Z A9 l := by
        refine cnts_keep (E := w.heap.size + 4) (x := 0) (y := 0) (B := none) (n := 0) (c := 0) (t := 34) (by apply blk_of; (repeat (first | with_reducible exact kR2 | with_reducible apply blk_drew | with_reducible apply blk_gw | with_reducible apply blk_alloc | with_reducible apply blk_set | ((with_reducible apply blk_other); focus omega))); (first | rfl | simp)) hP9 fun b hb => ?_
        rw [hZ]
        repeat (first | with_reducible exact sm_refl _ _ | with_reducible refine sm_gw ?_ | with_reducible refine sm_set ?_ hb)
      clear hZ
      have okZ := blk_older kZ
      have ckZ_0 : _ = some _ := blk_cell kZ 0
      have ckZ_1 : _ = some _ := blk_cell kZ 1
      have ckZ_2 : _ = some _ := blk_cell kZ 2
      have fkZ_0 := blk_free kZ 0
      have fkZ_1 := blk_free kZ 1
      have fkZ_2 := blk_free kZ 2
      exact bodyPost_ret (v := .tuple #[.agg #[.int .i64 nx, .int .i64 ny, .slice A9 l.length c9], .bool bo]) (by simp [results, Tryz.results10, go_sem, ckZ_0, ckZ_1, ckZ_2]) rfl (mnt_mk3 rfl (by have e := hboH.out; clear hboH; cases l <;> simpa using e) hle9 hmx9 hnil9 hPZ hbZ)
    · go_wp2_with (go_at_call 31; refine Calls.mono (cC _ (Pts.to hP5V bBel) (Pts.to hP6V bBel)) ?_; rintro e w1 ⟨⟨A9, c9, rfl, hle9, hmx9, hnil9, hP9⟩, q9, rfl⟩)
      refine post_named ?_
      intro Z hZ
      have kZ : blk Z (w.heap.size + 4) #[.int .i64 nx, .int .i64 ny, .slice A9 l.length c9] 34 := by rw [hZ]; exact (by apply blk_of; (repeat (first | with_reducible exact kR2 | with_reducible apply blk_drew | with_reducible apply blk_gw | with_reducible apply blk_alloc | with_reducible apply blk_set | ((with_reducible apply blk_other); focus omega))); (first | rfl | simp))
      have hbZ : Below w.heap.size w Z := by rw [hZ]; exact bBel
      have hPZ : Cnts Z A9 l := by
        refine cnts_keep (E := w.heap.size + 4) (x := 0) (y := 0) (B := none) (n := 0) (c := 0) (t := 34) (by apply blk_of; (repeat (first | with_reducible exact kR2 | with_reducible apply blk_drew | with_reducible apply blk_gw | with_reducible apply blk_alloc | with_reducible apply blk_set | ((with_reducible apply blk_other); focus omega))); (first | rfl | simp)) hP9 fun b hb => ?_
        rw [hZ]
        repeat (first | with_reducible exact sm_refl _ _ | with_reducible refine sm_gw ?_ | with_reducible refine sm_set ?_ hb)
      clear hZ
      have okZ := blk_older kZ
      have ckZ_0 : _ = some _ := blk_cell kZ 0
      have ckZ_1 : _ = some _ := blk_cell kZ 1
      have ckZ_2 : _ = some _ := blk_cell kZ 2
      have fkZ_0 := blk_free kZ 0
      have fkZ_1 := blk_free kZ 1
      have fkZ_2 := blk_free kZ 2
      exact bodyPost_ret (v := .tuple #[.agg #[.int .i64 nx, .int .i64 ny, .slice A9 l.length c9], .bool bo]) (by simp [results, Tryz.results10, go_sem, ckZ_0, ckZ_1, ckZ_2]) rfl (mnt_mk3 rfl (by have e := hboH.out; clear hboH; cases l <;> simpa using e) hle9 hmx9 hnil9 hPZ hbZ)

end Go.Proofs.YtiecpebckmihgaaGreat
