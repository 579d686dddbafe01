/- Contracts of package manifold: a polygon and a circle. -/
import Derived.Test.YtiecpebckmihgaaGreatMnS
set_option linter.unusedVariables false
namespace Go.Proofs.YtiecpebckmihgaaGreat
open Go.RowKit Fx

set_option maxRecDepth 100000 in
set_option maxHeartbeats 16000000 in
theorem mpol_b (Ka Ra Kb Rb : Int) (A B_ : Option Addr) (ca cb : Nat) (ps : List (Int × Int)) (cx cy : Int) (h2 : 2 ≤ ps.length) (hl : ps.length ≤ 1000) (s1 : sat cx = cx) (s2 : sat cy = cy) (w : World) (ha : Pts w A ps) (hb : Pts w B_ [(cx, cy)]) :
    Calls Tryz.prog 43 #[.agg #[.int .i64 Ka, .slice A ps.length ca, .int .i64 Ra], .agg #[.int .i64 Kb, .slice B_ 1 cb, .int .i64 Rb]] w (MnR w (polM ps cx cy Rb)) := by
  have cM : ∀ w', Pts w' A ps → Pts w' B_ [(cx, cy)] → Calls Tryz.prog 85 #[.slice A ps.length ca, .slice B_ 1 cb] w' fun e w'' => e = .returned (.tuple #[.int .i64 (msep ps [(cx, cy)]).1, .int .i64 (msep ps [(cx, cy)]).2]) ∧ Below w'.heap.size w' w'' := fun w' h1 h2 => ymsep_b A B_ ca cb ps [(cx, cy)] (by omega) (by simp) w' h1 h2
  have cN := fun w' h => ynor_b A ca ps (msep ps [(cx, cy)]).1 (by omega) w' h
  have cX := fun w' h => mcpe_b A ca ps cx cy (by omega) (by omega) w' h
  obtain ⟨R, hR⟩ : ∃ R, Hid (polM ps cx cy Rb = R) := ⟨_, rfl⟩
  rw [hR.out]
  have hR1 : oneM (polN ps cx cy).1 (polN ps cx cy).2 (ptO (polN ps cx cy).1 (polN ps cx cy).2 cx cy (polG ps cx cy) Rb).1 (ptO (polN ps cx cy).1 (polN ps cx cy).2 cx cy (polG ps cx cy) Rb).2 (sub (polG ps cx cy) Rb) = R := hR.out
  clear hR
  obtain ⟨t1, t2⟩ := cloE_sat ps cx cy (ps.length - 1)
  have hN : polN ps cx cy = if 0 < (msep ps [(cx, cy)]).2 then dirO (cloE ps cx cy (ps.length - 1)).1 (cloE ps cx cy (ps.length - 1)).2 cx cy (eNor ps (msep ps [(cx, cy)]).1).1 (eNor ps (msep ps [(cx, cy)]).1).2 else eNor ps (msep ps [(cx, cy)]).1 := by
    unfold polN
    by_cases c : 0 < (msep ps [(cx, cy)]).2
    · rw [if_pos c, dirO_polN _ _ _ _ _ _ t1 t2 s1 s2]
      by_cases d : vlen (polD ps cx cy).1 (polD ps cx cy).2 ≠ 0
      · rw [if_pos ⟨c, d⟩]; exact (if_pos d).symm
      · rw [if_neg (fun h => d h.2)]; exact (if_neg d).symm
    · rw [if_neg (fun h => c h.1), if_neg c]
  have hG : polG ps cx cy = if 0 < (msep ps [(cx, cy)]).2 then vlen (sub cx (cloE ps cx cy (ps.length - 1)).1) (sub cy (cloE ps cx cy (ps.length - 1)).2) else (msep ps [(cx, cy)]).2 := rfl
  rw [hN, hG] at hR1
  clear hN hG t1 t2 s1 s2
  generalize (msep ps [(cx, cy)]).1 = i at *
  generalize (msep ps [(cx, cy)]).2 = g at *
  generalize (cloE ps cx cy (ps.length - 1)).1 = x1 at *
  generalize (cloE ps cx cy (ps.length - 1)).2 = x2 at *
  have hR3 : Hid (_ = R) := hR1
  clear hR1
  have cL := fun w' => mdist_b x1 x2 cx cy w'
  have cD := fun w' => mdir_b x1 x2 cx cy (eNor ps i).1 (eNor ps i).2 w'
  have hE1 : ∃ e1, (eNor ps i).1 = e1 := ⟨_, rfl⟩
  obtain ⟨e1, hE1⟩ := hE1
  have hE2 : ∃ e2, (eNor ps i).2 = e2 := ⟨_, rfl⟩
  obtain ⟨e2, hE2⟩ := hE2
  rw [hE1, hE2] at cN cD
  have hE1' := hE1
  have hE2' := hE2
  obtain ⟨b', off', rfl, hc'⟩ := pts_open0 hb (by simp)
  obtain ⟨f0, f1⟩ := hc' 0 (by simp)
  rw [Nat.zero_mul, Nat.add_zero] at f0 f1
  have of := older_of_cell f0
  have hbQ : b' < w.heap.size := World.block_lt_of_cell? w ⟨b', off', none⟩ f0
  have f0' : w.cell? ⟨b', off', none⟩ = some (.int .i64 cx) := f0
  have f1' : w.cell? ⟨b', off' + 1, none⟩ = some (.int .i64 cy) := f1
  clear hc' f0 f1
  go_enter Tryz.func43, Tryz.ntmps43
  go_upto_region 3 with (first | (go_at_call 85; refine Calls.mono (gw_at (cM _ (Pts.to ha bBel) (Pts.to hb bBel))) ?_; rintro e w1 ⟨rfl, q, rfl⟩))
  refine wp_named ?_
  intro W hW
  have kA : blk W w.heap.size #[.int .i64 Ka, .slice A ps.length ca, .int .i64 Ra] 50 := by rw [hW]; exact bBkn
  have kB : blk W (w.heap.size + 1) #[.int .i64 Kb, .slice (some ⟨b', off', none⟩) 1 cb, .int .i64 Rb] 50 := by rw [hW]; exact bBkn
  have kR : blk W (w.heap.size + 2) #[.int .i64 0, .int .i64 0, .slice none 0 0] 34 := by rw [hW]; exact bBkn
  have kC : blk W (w.heap.size + 3) #[.int .i64 cx, .int .i64 cy] 27 := by rw [hW]; exact bBkn
  have hbW : Below w.heap.size w W := by rw [hW]; exact bBel
  clear hW of hb f0' f1' cM
  clear q
  have hszW := hbW.size
  have haW := Pts.to ha hbW
  clear ha
  have okA := blk_older kA
  have ckA_0 : _ = some _ := blk_cell kA 0
  have ckA_1 : _ = some _ := blk_cell kA 1
  have ckA_2 : _ = some _ := blk_cell kA 2
  have fkA_0 := blk_free kA 0
  have fkA_1 := blk_free kA 1
  have fkA_2 := blk_free kA 2
  go_upto_region 4 with (first | (go_at_call 86; refine Calls.mono (gw_at (cN _ (Pts.to haW bBel))) ?_; rintro e w1 ⟨rfl, q, rfl⟩))
  refine wp_named ?_
  intro X hX
  have kM1 : blk X (W.heap.size + q.os.size) #[.int .i64 e1, .int .i64 e2, .slice none 0 0] 34 := by rw [hX]; exact bBkn
  have kA1 : blk X w.heap.size #[.int .i64 Ka, .slice A ps.length ca, .int .i64 Ra] 50 := by rw [hX]; exact (by apply blk_of; (repeat (first | with_reducible exact kA | with_reducible apply blk_drew | with_reducible apply blk_gw | with_reducible apply blk_alloc | with_reducible apply blk_set | ((with_reducible apply blk_other); focus omega))); (first | rfl | simp))
  have kB1 : blk X (w.heap.size + 1) #[.int .i64 Kb, .slice (some ⟨b', off', none⟩) 1 cb, .int .i64 Rb] 50 := by rw [hX]; exact (by apply blk_of; (repeat (first | with_reducible exact kB | with_reducible apply blk_drew | with_reducible apply blk_gw | with_reducible apply blk_alloc | with_reducible apply blk_set | ((with_reducible apply blk_other); focus omega))); (first | rfl | simp))
  have kR1 : blk X (w.heap.size + 2) #[.int .i64 0, .int .i64 0, .slice none 0 0] 34 := by rw [hX]; exact (by apply blk_of; (repeat (first | with_reducible exact kR | with_reducible apply blk_drew | with_reducible apply blk_gw | with_reducible apply blk_alloc | with_reducible apply blk_set | ((with_reducible apply blk_other); focus omega))); (first | rfl | simp))
  have kC1 : blk X (w.heap.size + 3) #[.int .i64 cx, .int .i64 cy] 27 := by rw [hX]; exact (by apply blk_of; (repeat (first | with_reducible exact kC | with_reducible apply blk_drew | with_reducible apply blk_gw | with_reducible apply blk_alloc | with_reducible apply blk_set | ((with_reducible apply blk_other); focus omega))); (first | rfl | simp))
  have hbX : Below w.heap.size w X := by rw [hX]; exact bBel
  have hszX := hbX.size
  have haX := Pts.to haW (show Below W.heap.size W X by rw [hX]; exact bBel)
  have hMW : w.heap.size + 4 ≤ W.heap.size + q.os.size := by have := blk_lt kC; omega
  clear hX hbW hszW haW okA ckA_0 ckA_1 ckA_2 fkA_0 fkA_1 fkA_2 kA kB kR kC cN
  generalize W.heap.size + q.os.size = M at *
  by_cases c : 0 < g
  · rw [if_pos c, if_pos c] at hR3
    have c1 : decide (0 < g) = true := decide_eq_true c
    have okM1 := blk_older kM1
    have ckM1_0 : _ = some _ := blk_cell kM1 0
    have ckM1_1 : _ = some _ := blk_cell kM1 1
    have ckM1_2 : _ = some _ := blk_cell kM1 2
    have fkM1_0 := blk_free kM1 0
    have fkM1_1 := blk_free kM1 1
    have fkM1_2 := blk_free kM1 2
    have okA1 := blk_older kA1
    have ckA1_0 : _ = some _ := blk_cell kA1 0
    have ckA1_1 : _ = some _ := blk_cell kA1 1
    have ckA1_2 : _ = some _ := blk_cell kA1 2
    have fkA1_0 := blk_free kA1 0
    have fkA1_1 := blk_free kA1 1
    have fkA1_2 := blk_free kA1 2
    have okC1 := blk_older kC1
    have ckC1_0 : _ = some _ := blk_cell kC1 0
    have ckC1_1 : _ = some _ := blk_cell kC1 1
    have fkC1_0 := blk_free kC1 0
    have fkC1_1 := blk_free kC1 1
    go_upto_region 6 with (first | (go_at_call 87; refine Calls.mono (gw_at (cX _ (Pts.to haX bBel))) ?_; rintro e w1 ⟨rfl, q, rfl⟩))
    refine wp_named ?_
    intro Y5 hY5
    have kE5 : blk Y5 (X.heap.size + q.os.size) #[.int .i64 x1, .int .i64 x2] 27 := by rw [hY5]; exact bBkn
    have kM5 : blk Y5 M #[.int .i64 e1, .int .i64 e2, .slice none 0 0] 34 := by rw [hY5]; exact (by apply blk_of; (repeat (first | with_reducible exact kM1 | with_reducible apply blk_drew | with_reducible apply blk_gw | with_reducible apply blk_alloc | with_reducible apply blk_set | ((with_reducible apply blk_other); focus omega))); (first | rfl | simp))
    have kB5 : blk Y5 (w.heap.size + 1) #[.int .i64 Kb, .slice (some ⟨b', off', none⟩) 1 cb, .int .i64 Rb] 50 := by rw [hY5]; exact (by apply blk_of; (repeat (first | with_reducible exact kB1 | with_reducible apply blk_drew | with_reducible apply blk_gw | with_reducible apply blk_alloc | with_reducible apply blk_set | ((with_reducible apply blk_other); focus omega))); (first | rfl | simp))
    have kR5 : blk Y5 (w.heap.size + 2) #[.int .i64 0, .int .i64 0, .slice none 0 0] 34 := by rw [hY5]; exact (by apply blk_of; (repeat (first | with_reducible exact kR1 | with_reducible apply blk_drew | with_reducible apply blk_gw | with_reducible apply blk_alloc | with_reducible apply blk_set | ((with_reducible apply blk_other); focus omega))); (first | rfl | simp))
    have kC5 : blk Y5 (w.heap.size + 3) #[.int .i64 cx, .int .i64 cy] 27 := by rw [hY5]; exact (by apply blk_of; (repeat (first | with_reducible exact kC1 | with_reducible apply blk_drew | with_reducible apply blk_gw | with_reducible apply blk_alloc | with_reducible apply blk_set | ((with_reducible apply blk_other); focus omega))); (first | rfl | simp))
    have hbY5 : Below w.heap.size w Y5 := by rw [hY5]; exact bBel
    have hszY5 := hbY5.size
    have hnE : M < X.heap.size + q.os.size := by have := blk_lt kM1; omega
    clear hY5 haX okM1 ckM1_0 ckM1_1 ckM1_2 fkM1_0 fkM1_1 fkM1_2 okA1 ckA1_0 ckA1_1 ckA1_2 fkA1_0 fkA1_1 fkA1_2 okC1 ckC1_0 ckC1_1 fkC1_0 fkC1_1 kM1 kA1 kB1 kR1 kC1 hbX hszX cX hE1 hE2 c1 c
    generalize X.heap.size + q.os.size = E at *
    clear X
    generalize vlen (sub cx x1) (sub cy x2) = G at *
    rw [hE1', hE2'] at hR3
    generalize (dirO x1 x2 cx cy e1 e2).1 = nx at *
    generalize (dirO x1 x2 cx cy e1 e2).2 = ny at *
    have okE5 := blk_older kE5
    have ckE5_0 : _ = some _ := blk_cell kE5 0
    have ckE5_1 : _ = some _ := blk_cell kE5 1
    have fkE5_0 := blk_free kE5 0
    have fkE5_1 := blk_free kE5 1
    have okM5 := blk_older kM5
    have ckM5_0 : _ = some _ := blk_cell kM5 0
    have ckM5_1 : _ = some _ := blk_cell kM5 1
    have ckM5_2 : _ = some _ := blk_cell kM5 2
    have fkM5_0 := blk_free kM5 0
    have fkM5_1 := blk_free kM5 1
    have fkM5_2 := blk_free kM5 2
    have okC5 := blk_older kC5
    have ckC5_0 : _ = some _ := blk_cell kC5 0
    have ckC5_1 : _ = some _ := blk_cell kC5 1
    have fkC5_0 := blk_free kC5 0
    have fkC5_1 := blk_free kC5 1
    refine wp_region_gw_tail 10 (by kernel_rfl) (by kernel_rfl) ?_
    simp only [List.take_succ_cons, List.take_zero, List.drop_succ_cons, List.drop_zero]
    repeat (go_big_quiet_step ((first | (go_at_call 82; with_reducible_and_instances exact gw_call (cL _)) | (go_at_call 80; with_reducible_and_instances exact gw_call (cD _)))))
    refine wpQuiet_nil ?_
    intro w1 hw1
    obtain ⟨q, rfl⟩ := hw1
    go_upto_region 7 with fail
    refine wp_named ?_
    intro X hX
    have kM1 : blk X M #[.int .i64 nx, .int .i64 ny, .slice none 0 0] 34 := by rw [hX]; exact (by apply blk_of; (repeat (first | with_reducible exact kM5 | with_reducible apply blk_drew | with_reducible apply blk_gw | with_reducible apply blk_alloc | with_reducible apply blk_set | ((with_reducible apply blk_other); focus omega))); (first | rfl | simp))
    have kB1 : blk X (w.heap.size + 1) #[.int .i64 Kb, .slice (some ⟨b', off', none⟩) 1 cb, .int .i64 Rb] 50 := by rw [hX]; exact (by apply blk_of; (repeat (first | with_reducible exact kB5 | with_reducible apply blk_drew | with_reducible apply blk_gw | with_reducible apply blk_alloc | with_reducible apply blk_set | ((with_reducible apply blk_other); focus omega))); (first | rfl | simp))
    have kR1 : blk X (w.heap.size + 2) #[.int .i64 0, .int .i64 0, .slice none 0 0] 34 := by rw [hX]; exact (by apply blk_of; (repeat (first | with_reducible exact kR5 | with_reducible apply blk_drew | with_reducible apply blk_gw | with_reducible apply blk_alloc | with_reducible apply blk_set | ((with_reducible apply blk_other); focus omega))); (first | rfl | simp))
    have kC1 : blk X (w.heap.size + 3) #[.int .i64 cx, .int .i64 cy] 27 := by rw [hX]; exact (by apply blk_of; (repeat (first | with_reducible exact kC5 | with_reducible apply blk_drew | with_reducible apply blk_gw | with_reducible apply blk_alloc | with_reducible apply blk_set | ((with_reducible apply blk_other); focus omega))); (first | rfl | simp))
    have hbX : Below w.heap.size w X := by rw [hX]; exact bBel
    have hszX := hbX.size
    clear hX okE5 ckE5_0 ckE5_1 fkE5_0 fkE5_1 okM5 ckM5_0 ckM5_1 ckM5_2 fkM5_0 fkM5_1 fkM5_2 okC5 ckC5_0 ckC5_1 fkC5_0 fkC5_1 kE5 kM5 kB5 kR5 kC5 hbY5 hszY5 cL cD
    obtain ⟨h, hh⟩ : ∃ h, rdiv (add G Rb) 2 = h := ⟨_, rfl⟩
    have c3 := fun w' => add_b G Rb w'
    have c4 := fun w' => mhalf_b (add G Rb) w'
    have c5 := fun w' => sub_b G Rb w'
    rw [hh] at c4
    have hbnd : -536870911 ≤ h ∧ h ≤ 536870911 := by rw [← hh]; exact half_in (add_rng _ _)
    have hR4 : Hid (oneM nx ny (sub cx (mul nx h)) (sub cy (mul ny h)) (sub G Rb) = R) := by rw [← hh]; exact hR3.out
    clear hR3 hh
    generalize add G Rb = gs at *
    generalize sub G Rb = sp at *
    have hX := add_back cx nx h
    have hY := add_back cy ny h
    have hcA0 : Hid (∀ bx (hs : 1024 < sp) (w' : World), _) := fun bx hs w' => madd0_b bx cx cy (-h) sp 0 hs w'
    have hcA1 : Hid (∀ bx M B (v : Value) (hs : ¬ 1024 < sp) (w' : World), _) := fun bx M B v hs w' => madd1_b bx M B nx ny v 0 [] cx cy (-h) sp 0 _ _ hs hX hY w'
    clear hX hY
    have hng : IntKind.i64.wrap (-h) = -h := by rw [IntWalk.i64_left, IntWalk.wrap64_in _ (by omega)]
    go_upto_region 8 with (go_at_call 81; refine Calls.mono (madder_b _ _) ?_; rintro e w1 ⟨rfl, rfl⟩)
    refine wp_named ?_
    intro V hV
    have kx : blk V X.heap.size #[.pointer (some ⟨M, 0, none⟩)] 98 := by rw [hV]; exact bBkn
    have kM : blk V M #[.int .i64 nx, .int .i64 ny, .slice none 0 0] 34 := by rw [hV]; exact (by apply blk_of; (repeat (first | with_reducible exact kM1 | with_reducible apply blk_drew | with_reducible apply blk_gw | with_reducible apply blk_alloc | with_reducible apply blk_set | ((with_reducible apply blk_other); focus omega))); (first | rfl | simp))
    have kB2 : blk V (w.heap.size + 1) #[.int .i64 Kb, .slice (some ⟨b', off', none⟩) 1 cb, .int .i64 Rb] 50 := by rw [hV]; exact (by apply blk_of; (repeat (first | with_reducible exact kB1 | with_reducible apply blk_drew | with_reducible apply blk_gw | with_reducible apply blk_alloc | with_reducible apply blk_set | ((with_reducible apply blk_other); focus omega))); (first | rfl | simp))
    have kR2 : blk V (w.heap.size + 2) #[.int .i64 0, .int .i64 0, .slice none 0 0] 34 := by rw [hV]; exact (by apply blk_of; (repeat (first | with_reducible exact kR1 | with_reducible apply blk_drew | with_reducible apply blk_gw | with_reducible apply blk_alloc | with_reducible apply blk_set | ((with_reducible apply blk_other); focus omega))); (first | rfl | simp))
    have kC2 : blk V (w.heap.size + 3) #[.int .i64 cx, .int .i64 cy] 27 := by rw [hV]; exact (by apply blk_of; (repeat (first | with_reducible exact kC1 | with_reducible apply blk_drew | with_reducible apply blk_gw | with_reducible apply blk_alloc | with_reducible apply blk_set | ((with_reducible apply blk_other); focus omega))); (first | rfl | simp))
    have hbV : Below w.heap.size w V := by rw [hV]; exact bBel
    have hMx : M < X.heap.size := blk_lt kM1
    have hszV := hbV.size
    clear hV kM1 kB1 kR1 kC1 hbX hszX
    generalize X.heap.size = bx at *
    have hxV := blk_lt kx
    have okB2 := blk_older kB2
    have ckB2_0 : _ = some _ := blk_cell kB2 0
    have ckB2_1 : _ = some _ := blk_cell kB2 1
    have ckB2_2 : _ = some _ := blk_cell kB2 2
    have fkB2_0 := blk_free kB2 0
    have fkB2_1 := blk_free kB2 1
    have fkB2_2 := blk_free kB2 2
    have okC2 := blk_older kC2
    have ckC2_0 : _ = some _ := blk_cell kC2 0
    have ckC2_1 : _ = some _ := blk_cell kC2 1
    have fkC2_0 := blk_free kC2 0
    have fkC2_1 := blk_free kC2 1
    refine wp_region_gw_tail 12 (by kernel_rfl) (by kernel_rfl) ?_
    simp only [List.take_succ_cons, List.take_zero, List.drop_succ_cons, List.drop_zero]
    repeat (go_big_quiet_step ((first | (go_at_call 83; with_reducible_and_instances exact gw_call (c3 _)) | (go_at_call 84; with_reducible_and_instances exact gw_call (c4 _)) | (go_at_call 17; with_reducible_and_instances exact gw_call (c5 _)))))
    refine wpQuiet_nil ?_
    intro w1 hw1
    obtain ⟨q, rfl⟩ := hw1
    refine list_nm ?_
    intro Y hY
    have hbY : Below V.heap.size V Y := by rw [hY]; exact bBel
    clear hY okB2 ckB2_0 ckB2_1 ckB2_2 fkB2_0 fkB2_1 fkB2_2 okC2 ckC2_0 ckC2_1 fkC2_0 fkC2_1 c3 c4 c5 kB2 kC2
    have kM3 := blk_below hbY kM
    have kx3 := blk_below hbY kx
    have kR3 := blk_below hbY kR2
    have hbY2 : Below w.heap.size w Y := Below.trans hbV (hbY.mono hbV.size)
    have hszY := hbY.size
    clear hbY kM kx kR2 hbV
    have hR := hR4.out
    clear hR4
    by_cases hG : 1024 < sp
    · obtain rfl : R = ⟨nx, ny, []⟩ := by rw [← hR]; unfold oneM; rw [if_pos hG]
      have cA := fun w' => hcA0.out bx (by omega) w'
      clear hcA0 hcA1 hR hG
      have okM3 := blk_older kM3
      have ckM3_0 : _ = some _ := blk_cell kM3 0
      have ckM3_1 : _ = some _ := blk_cell kM3 1
      have ckM3_2 : _ = some _ := blk_cell kM3 2
      have fkM3_0 := blk_free kM3 0
      have fkM3_1 := blk_free kM3 1
      have fkM3_2 := blk_free kM3 2
      have okR3 := blk_older kR3
      have ckR3_0 : _ = some _ := blk_cell kR3 0
      have ckR3_1 : _ = some _ := blk_cell kR3 1
      have ckR3_2 : _ = some _ := blk_cell kR3 2
      have fkR3_0 := blk_free kR3 0
      have fkR3_1 := blk_free kR3 1
      have fkR3_2 := blk_free kR3 2
      go_wp2_with (go_at_call 123; refine Calls.mono (gw_at (cA _)) ?_; rintro e w1 ⟨rfl, q2, rfl⟩)
      refine post_named ?_
      intro Z hZ
      have kZ : blk Z (w.heap.size + 2) #[.int .i64 nx, .int .i64 ny, .slice none 0 0] 34 := by rw [hZ]; exact (by apply blk_of; (repeat (first | with_reducible exact kR3 | with_reducible apply blk_drew | with_reducible apply blk_gw | with_reducible apply blk_alloc | with_reducible apply blk_set | ((with_reducible apply blk_other); focus omega))); (first | rfl | simp))
      have hbZ : Below w.heap.size w Z := by rw [hZ]; exact bBel
      clear hZ
      have okZ := blk_older kZ
      have ckZ_0 : _ = some _ := blk_cell kZ 0
      have ckZ_1 : _ = some _ := blk_cell kZ 1
      have ckZ_2 : _ = some _ := blk_cell kZ 2
      have fkZ_0 := blk_free kZ 0
      have fkZ_1 := blk_free kZ 1
      have fkZ_2 := blk_free kZ 2
      exact bodyPost_ret (v := .agg #[.int .i64 nx, .int .i64 ny, .slice none 0 0]) (by simp [results, Tryz.results43, go_sem, ckZ_0, ckZ_1, ckZ_2]) rfl (mnr_mk (l := []) (Nat.le_refl _) (by decide) (fun _ => rfl) (.inl rfl) hbZ)
    · obtain rfl : R = ⟨nx, ny, [⟨sub cx (mul nx h), sub cy (mul ny h), sp, 0, 0, 0⟩]⟩ := by rw [← hR]; unfold oneM; rw [if_neg hG]
      have cA := fun w' h1 h2 h3 => hcA1.out bx M V.heap.size (.slice none 0 0) (by omega) w' h1 h2 (World.ownsRow_nil _ _ _ 6) (by omega) (by omega) (by omega) h3 (by omega)
      clear hcA0 hcA1 hR hG
      generalize sub cx (mul nx h) = x at *
      generalize sub cy (mul ny h) = y at *
      have okM3 := blk_older kM3
      have ckM3_0 : _ = some _ := blk_cell kM3 0
      have ckM3_1 : _ = some _ := blk_cell kM3 1
      have ckM3_2 : _ = some _ := blk_cell kM3 2
      have fkM3_0 := blk_free kM3 0
      have fkM3_1 := blk_free kM3 1
      have fkM3_2 := blk_free kM3 2
      have okR3 := blk_older kR3
      have ckR3_0 : _ = some _ := blk_cell kR3 0
      have ckR3_1 : _ = some _ := blk_cell kR3 1
      have ckR3_2 : _ = some _ := blk_cell kR3 2
      have fkR3_0 := blk_free kR3 0
      have fkR3_1 := blk_free kR3 1
      have fkR3_2 := blk_free kR3 2
      go_wp2_with (go_at_call 123; refine Calls.mono (cA _ kx3 kM3 hszY) ?_; rintro e w1 ⟨rfl, v', kx4, kM4, hown, hB1⟩; obtain ⟨A5, c5, rfl, -, hle5, hmx5, hnil5, hP5, hfr5⟩ := owns_cnts (l := [⟨x, y, sp, 0, 0, 0⟩]) (by simpa using hown); have kR4 := hB1.blk kR3 (by omega) (by omega); have hbZ4 := hB1.below (B' := w.heap.size) (by omega) (by omega); have hsz4 := hB1.size; have cM0 := blk_cell kM4 0; have cM1 := blk_cell kM4 1; have cM2 := blk_cell kM4 2; have oM := blk_older kM4; have cR0 := blk_cell kR4 0; have oR := blk_older kR4; have fR0 := blk_free kR4 0; have fR1 := blk_free kR4 1; have fR2 := blk_free kR4 2; have cR1 := blk_cell kR4 1; have cR2 := blk_cell kR4 2; clear hown hB1)
      refine post_named ?_
      intro Z hZ
      have kZ : blk Z (w.heap.size + 2) #[.int .i64 nx, .int .i64 ny, .slice A5 1 c5] 34 := by rw [hZ]; exact (by apply blk_of; (repeat (first | with_reducible exact kR4 | with_reducible apply blk_drew | with_reducible apply blk_gw | with_reducible apply blk_alloc | with_reducible apply blk_set | ((with_reducible apply blk_other); focus omega))); (first | rfl | simp))
      have hbZ : Below w.heap.size w Z := Below.trans hbY2 (Below.trans (hbZ4.mono (Nat.le_refl _)) (by rw [hZ]; exact bBel))
      have hPZ : Cnts Z A5 [⟨x, y, sp, 0, 0, 0⟩] := by
        rcases hfr5 with h | ⟨b, rfl, hge⟩
        · exact .inl h
        · refine cnts_sm ?_ hP5
          rw [hZ]
          repeat (first | with_reducible exact sm_refl _ _ | with_reducible refine sm_gw ?_ | with_reducible refine sm_set ?_ (by omega))
      clear hZ
      have okZ := blk_older kZ
      have ckZ_0 : _ = some _ := blk_cell kZ 0
      have ckZ_1 : _ = some _ := blk_cell kZ 1
      have ckZ_2 : _ = some _ := blk_cell kZ 2
      have fkZ_0 := blk_free kZ 0
      have fkZ_1 := blk_free kZ 1
      have fkZ_2 := blk_free kZ 2
      exact bodyPost_ret (v := .agg #[.int .i64 nx, .int .i64 ny, .slice A5 1 c5]) (by simp [results, Tryz.results43, go_sem, ckZ_0, ckZ_1, ckZ_2]) rfl (mnr_mk (l := [⟨x, y, sp, 0, 0, 0⟩]) hle5 hmx5 hnil5 hPZ hbZ)
  · rw [if_neg c, if_neg c] at hR3
    rw [hE1, hE2] at hR3
    clear cX cL cD hE1 hE2 hE1' hE2' kA1 haX x1 x2
    obtain ⟨h, hh⟩ : ∃ h, rdiv (add g Rb) 2 = h := ⟨_, rfl⟩
    have c3 := fun w' => add_b g Rb w'
    have c4 := fun w' => mhalf_b (add g Rb) w'
    have c5 := fun w' => sub_b g Rb w'
    rw [hh] at c4
    have hbnd : -536870911 ≤ h ∧ h ≤ 536870911 := by rw [← hh]; exact half_in (add_rng _ _)
    have hR4 : Hid (oneM e1 e2 (sub cx (mul e1 h)) (sub cy (mul e2 h)) (sub g Rb) = R) := by rw [← hh]; exact hR3.out
    clear hR3 hh
    generalize add g Rb = gs at *
    generalize sub g Rb = sp at *
    have hX := add_back cx e1 h
    have hY := add_back cy e2 h
    have hcA0 : Hid (∀ bx (hs : 1024 < sp) (w' : World), _) := fun bx hs w' => madd0_b bx cx cy (-h) sp 0 hs w'
    have hcA1 : Hid (∀ bx M B (v : Value) (hs : ¬ 1024 < sp) (w' : World), _) := fun bx M B v hs w' => madd1_b bx M B e1 e2 v 0 [] cx cy (-h) sp 0 _ _ hs hX hY w'
    clear hX hY
    have hng : IntKind.i64.wrap (-h) = -h := by rw [IntWalk.i64_left, IntWalk.wrap64_in _ (by omega)]
    go_upto_region 8 with (go_at_call 81; refine Calls.mono (madder_b _ _) ?_; rintro e w1 ⟨rfl, rfl⟩)
    refine wp_named ?_
    intro V hV
    have kx : blk V X.heap.size #[.pointer (some ⟨M, 0, none⟩)] 98 := by rw [hV]; exact bBkn
    have kM : blk V M #[.int .i64 e1, .int .i64 e2, .slice none 0 0] 34 := by rw [hV]; exact (by apply blk_of; (repeat (first | with_reducible exact kM1 | with_reducible apply blk_drew | with_reducible apply blk_gw | with_reducible apply blk_alloc | with_reducible apply blk_set | ((with_reducible apply blk_other); focus omega))); (first | rfl | simp))
    have kB2 : blk V (w.heap.size + 1) #[.int .i64 Kb, .slice (some ⟨b', off', none⟩) 1 cb, .int .i64 Rb] 50 := by rw [hV]; exact (by apply blk_of; (repeat (first | with_reducible exact kB1 | with_reducible apply blk_drew | with_reducible apply blk_gw | with_reducible apply blk_alloc | with_reducible apply blk_set | ((with_reducible apply blk_other); focus omega))); (first | rfl | simp))
    have kR2 : blk V (w.heap.size + 2) #[.int .i64 0, .int .i64 0, .slice none 0 0] 34 := by rw [hV]; exact (by apply blk_of; (repeat (first | with_reducible exact kR1 | with_reducible apply blk_drew | with_reducible apply blk_gw | with_reducible apply blk_alloc | with_reducible apply blk_set | ((with_reducible apply blk_other); focus omega))); (first | rfl | simp))
    have kC2 : blk V (w.heap.size + 3) #[.int .i64 cx, .int .i64 cy] 27 := by rw [hV]; exact (by apply blk_of; (repeat (first | with_reducible exact kC1 | with_reducible apply blk_drew | with_reducible apply blk_gw | with_reducible apply blk_alloc | with_reducible apply blk_set | ((with_reducible apply blk_other); focus omega))); (first | rfl | simp))
    have hbV : Below w.heap.size w V := by rw [hV]; exact bBel
    have hMx : M < X.heap.size := blk_lt kM1
    have hszV := hbV.size
    clear hV kM1 kB1 kR1 kC1 hbX hszX
    generalize X.heap.size = bx at *
    have hxV := blk_lt kx
    have okB2 := blk_older kB2
    have ckB2_0 : _ = some _ := blk_cell kB2 0
    have ckB2_1 : _ = some _ := blk_cell kB2 1
    have ckB2_2 : _ = some _ := blk_cell kB2 2
    have fkB2_0 := blk_free kB2 0
    have fkB2_1 := blk_free kB2 1
    have fkB2_2 := blk_free kB2 2
    have okC2 := blk_older kC2
    have ckC2_0 : _ = some _ := blk_cell kC2 0
    have ckC2_1 : _ = some _ := blk_cell kC2 1
    have fkC2_0 := blk_free kC2 0
    have fkC2_1 := blk_free kC2 1
    refine wp_region_gw_tail 12 (by kernel_rfl) (by kernel_rfl) ?_
    simp only [List.take_succ_cons, List.take_zero, List.drop_succ_cons, List.drop_zero]
    repeat (go_big_quiet_step ((first | (go_at_call 83; with_reducible_and_instances exact gw_call (c3 _)) | (go_at_call 84; with_reducible_and_instances exact gw_call (c4 _)) | (go_at_call 17; with_reducible_and_instances exact gw_call (c5 _)))))
    refine wpQuiet_nil ?_
    intro w1 hw1
    obtain ⟨q, rfl⟩ := hw1
    refine list_nm ?_
    intro Y hY
    have hbY : Below V.heap.size V Y := by rw [hY]; exact bBel
    clear hY okB2 ckB2_0 ckB2_1 ckB2_2 fkB2_0 fkB2_1 fkB2_2 okC2 ckC2_0 ckC2_1 fkC2_0 fkC2_1 c3 c4 c5 kB2 kC2
    have kM3 := blk_below hbY kM
    have kx3 := blk_below hbY kx
    have kR3 := blk_below hbY kR2
    have hbY2 : Below w.heap.size w Y := Below.trans hbV (hbY.mono hbV.size)
    have hszY := hbY.size
    clear hbY kM kx kR2 hbV
    have hR := hR4.out
    clear hR4
    by_cases hG : 1024 < sp
    · obtain rfl : R = ⟨e1, e2, []⟩ := by rw [← hR]; unfold oneM; rw [if_pos hG]
      have cA := fun w' => hcA0.out bx (by omega) w'
      clear hcA0 hcA1 hR hG
      have okM3 := blk_older kM3
      have ckM3_0 : _ = some _ := blk_cell kM3 0
      have ckM3_1 : _ = some _ := blk_cell kM3 1
      have ckM3_2 : _ = some _ := blk_cell kM3 2
      have fkM3_0 := blk_free kM3 0
      have fkM3_1 := blk_free kM3 1
      have fkM3_2 := blk_free kM3 2
      have okR3 := blk_older kR3
      have ckR3_0 : _ = some _ := blk_cell kR3 0
      have ckR3_1 : _ = some _ := blk_cell kR3 1
      have ckR3_2 : _ = some _ := blk_cell kR3 2
      have fkR3_0 := blk_free kR3 0
      have fkR3_1 := blk_free kR3 1
      have fkR3_2 := blk_free kR3 2
      go_wp2_with (go_at_call 123; refine Calls.mono (gw_at (cA _)) ?_; rintro e w1 ⟨rfl, q2, rfl⟩)
      refine post_named ?_
      intro Z hZ
      have kZ : blk Z (w.heap.size + 2) #[.int .i64 e1, .int .i64 e2, .slice none 0 0] 34 := by rw [hZ]; exact (by apply blk_of; (repeat (first | with_reducible exact kR3 | with_reducible apply blk_drew | with_reducible apply blk_gw | with_reducible apply blk_alloc | with_reducible apply blk_set | ((with_reducible apply blk_other); focus omega))); (first | rfl | simp))
      have hbZ : Below w.heap.size w Z := by rw [hZ]; exact bBel
      clear hZ
      have okZ := blk_older kZ
      have ckZ_0 : _ = some _ := blk_cell kZ 0
      have ckZ_1 : _ = some _ := blk_cell kZ 1
      have ckZ_2 : _ = some _ := blk_cell kZ 2
      have fkZ_0 := blk_free kZ 0
      have fkZ_1 := blk_free kZ 1
      have fkZ_2 := blk_free kZ 2
      exact bodyPost_ret (v := .agg #[.int .i64 e1, .int .i64 e2, .slice none 0 0]) (by simp [results, Tryz.results43, go_sem, ckZ_0, ckZ_1, ckZ_2]) rfl (mnr_mk (l := []) (Nat.le_refl _) (by decide) (fun _ => rfl) (.inl rfl) hbZ)
    · obtain rfl : R = ⟨e1, e2, [⟨sub cx (mul e1 h), sub cy (mul e2 h), sp, 0, 0, 0⟩]⟩ := by rw [← hR]; unfold oneM; rw [if_neg hG]
      have cA := fun w' h1 h2 h3 => hcA1.out bx M V.heap.size (.slice none 0 0) (by omega) w' h1 h2 (World.ownsRow_nil _ _ _ 6) (by omega) (by omega) (by omega) h3 (by omega)
      clear hcA0 hcA1 hR hG
      generalize sub cx (mul e1 h) = x at *
      generalize sub cy (mul e2 h) = y at *
      have okM3 := blk_older kM3
      have ckM3_0 : _ = some _ := blk_cell kM3 0
      have ckM3_1 : _ = some _ := blk_cell kM3 1
      have ckM3_2 : _ = some _ := blk_cell kM3 2
      have fkM3_0 := blk_free kM3 0
      have fkM3_1 := blk_free kM3 1
      have fkM3_2 := blk_free kM3 2
      have okR3 := blk_older kR3
      have ckR3_0 : _ = some _ := blk_cell kR3 0
      have ckR3_1 : _ = some _ := blk_cell kR3 1
      have ckR3_2 : _ = some _ := blk_cell kR3 2
      have fkR3_0 := blk_free kR3 0
      have fkR3_1 := blk_free kR3 1
      have fkR3_2 := blk_free kR3 2
      go_wp2_with (go_at_call 123; refine Calls.mono (cA _ kx3 kM3 hszY) ?_; rintro e w1 ⟨rfl, v', kx4, kM4, hown, hB1⟩; obtain ⟨A5, c5, rfl, -, hle5, hmx5, hnil5, hP5, hfr5⟩ := owns_cnts (l := [⟨x, y, sp, 0, 0, 0⟩]) (by simpa using hown); have kR4 := hB1.blk kR3 (by omega) (by omega); have hbZ4 := hB1.below (B' := w.heap.size) (by omega) (by omega); have hsz4 := hB1.size; have cM0 := blk_cell kM4 0; have cM1 := blk_cell kM4 1; have cM2 := blk_cell kM4 2; have oM := blk_older kM4; have cR0 := blk_cell kR4 0; have oR := blk_older kR4; have fR0 := blk_free kR4 0; have fR1 := blk_free kR4 1; have fR2 := blk_free kR4 2; have cR1 := blk_cell kR4 1; have cR2 := blk_cell kR4 2; clear hown hB1)
      refine post_named ?_
      intro Z hZ
      have kZ : blk Z (w.heap.size + 2) #[.int .i64 e1, .int .i64 e2, .slice A5 1 c5] 34 := by rw [hZ]; exact (by apply blk_of; (repeat (first | with_reducible exact kR4 | with_reducible apply blk_drew | with_reducible apply blk_gw | with_reducible apply blk_alloc | with_reducible apply blk_set | ((with_reducible apply blk_other); focus omega))); (first | rfl | simp))
      have hbZ : Below w.heap.size w Z := Below.trans hbY2 (Below.trans (hbZ4.mono (Nat.le_refl _)) (by rw [hZ]; exact bBel))
      have hPZ : Cnts Z A5 [⟨x, y, sp, 0, 0, 0⟩] := by
        rcases hfr5 with h | ⟨b, rfl, hge⟩
        · exact .inl h
        · refine cnts_sm ?_ hP5
          rw [hZ]
          repeat (first | with_reducible exact sm_refl _ _ | with_reducible refine sm_gw ?_ | with_reducible refine sm_set ?_ (by omega))
      clear hZ
      have okZ := blk_older kZ
      have ckZ_0 : _ = some _ := blk_cell kZ 0
      have ckZ_1 : _ = some _ := blk_cell kZ 1
      have ckZ_2 : _ = some _ := blk_cell kZ 2
      have fkZ_0 := blk_free kZ 0
      have fkZ_1 := blk_free kZ 1
      have fkZ_2 := blk_free kZ 2
      exact bodyPost_ret (v := .agg #[.int .i64 e1, .int .i64 e2, .slice A5 1 c5]) (by simp [results, Tryz.results43, go_sem, ckZ_0, ckZ_1, ckZ_2]) rfl (mnr_mk (l := [⟨x, y, sp, 0, 0, 0⟩]) hle5 hmx5 hnil5 hPZ hbZ)

end Go.Proofs.YtiecpebckmihgaaGreat
