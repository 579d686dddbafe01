/- Contracts of package manifold: which rule two shapes fall under. -/
import Derived.Test.YtiecpebckmihgaaGreatMnW
set_option linter.unusedVariables false
namespace Go.Proofs.YtiecpebckmihgaaGreat
open Go.RowKit Fx

set_option maxHeartbeats 8000000 in
theorem mtouch1_b (Ka Ra Kb Rb : Int) (A B_ : Option Addr) (ca cb n k : Nat) (ps qs : List (Int × Int)) (M : Mn) (h1 : (Ka != 3) = true) (h2 : (Kb != 3) = true) (hC : ∀ w', Pts w' A ps → Pts w' B_ qs → Calls Tryz.prog 42 #[.agg #[.int .i64 Ka, .slice A n ca, .int .i64 Ra], .agg #[.int .i64 Kb, .slice B_ k cb, .int .i64 Rb]] w' (MnR w' M)) (w : World) (ha : Pts w A ps) (hb : Pts w B_ qs) :
    Calls Tryz.prog 19 #[.agg #[.int .i64 Ka, .slice A n ca, .int .i64 Ra], .agg #[.int .i64 Kb, .slice B_ k cb, .int .i64 Rb]] w (MnR w M) := by
  have cR := fun w' h1 h2 => mnr_ex (hC w' h1 h2)
  obtain ⟨nx, ny, l⟩ := M
  clear hC
  go_enter Tryz.func19, Tryz.ntmps19
  go_upto_region 1 with fail
  refine wp_named ?_
  intro W hW
  have kA : blk W w.heap.size #[.int .i64 Ka, .slice A n ca, .int .i64 Ra] 50 := by rw [hW]; exact bBkn
  have kB : blk W (w.heap.size + 1) #[.int .i64 Kb, .slice B_ k cb, .int .i64 Rb] 50 := by rw [hW]; exact bBkn
  have kR : blk W (w.heap.size + 2) #[.int .i64 0, .int .i64 0, .slice none 0 0] 34 := by rw [hW]; exact bBkn
  have hbW : Below w.heap.size w W := by rw [hW]; exact bBel
  clear hW
  have hszW := hbW.size
  have haW := Pts.to ha hbW
  have hbPW := Pts.to hb hbW
  have hRW := blk_lt kR
  have okA := blk_older kA
  have ckA_0 : _ = some _ := blk_cell kA 0
  have ckA_1 : _ = some _ := blk_cell kA 1
  have ckA_2 : _ = some _ := blk_cell kA 2
  have fkA_0 := blk_free kA 0
  have fkA_1 := blk_free kA 1
  have fkA_2 := blk_free kA 2
  have okB := blk_older kB
  have ckB_0 : _ = some _ := blk_cell kB 0
  have ckB_1 : _ = some _ := blk_cell kB 1
  have ckB_2 : _ = some _ := blk_cell kB 2
  have fkB_0 := blk_free kB 0
  have fkB_1 := blk_free kB 1
  have fkB_2 := blk_free kB 2
  have okR := blk_older kR
  have ckR_0 : _ = some _ := blk_cell kR 0
  have ckR_1 : _ = some _ := blk_cell kR 1
  have ckR_2 : _ = some _ := blk_cell kR 2
  have fkR_0 := blk_free kR 0
  have fkR_1 := blk_free kR 1
  have fkR_2 := blk_free kR 2
  go_wp2_with (go_at_call 42; refine Calls.mono (cR _ (Pts.to haW bBel) (Pts.to hbPW bBel)) ?_; rintro e w1 ⟨⟨A5, c5, rfl, hle5, hmx5, hnil5, hP5⟩, q5, rfl⟩)
  refine post_named ?_
  intro Z hZ
  have kZ : blk Z (w.heap.size + 2) #[.int .i64 nx, .int .i64 ny, .slice A5 l.length c5] 34 := by rw [hZ]; exact (by apply blk_of; (repeat (first | with_reducible exact kR | with_reducible apply blk_drew | with_reducible apply blk_gw | with_reducible apply blk_alloc | with_reducible apply blk_set | ((with_reducible apply blk_other); focus omega))); (first | rfl | simp))
  have hbZ : Below w.heap.size w Z := by rw [hZ]; exact bBel
  have hPZ : Cnts Z A5 l := by
    refine cnts_keep (blk_gw kR) hP5 fun b hb => ?_
    rw [hZ]
    repeat (first | with_reducible exact sm_refl _ _ | with_reducible refine sm_gw ?_ | with_reducible refine sm_set ?_ hb)
  clear hZ
  have okZ := blk_older kZ
  have ckZ_0 : _ = some _ := blk_cell kZ 0
  have ckZ_1 : _ = some _ := blk_cell kZ 1
  have ckZ_2 : _ = some _ := blk_cell kZ 2
  have fkZ_0 := blk_free kZ 0
  have fkZ_1 := blk_free kZ 1
  have fkZ_2 := blk_free kZ 2
  exact bodyPost_ret (v := .agg #[.int .i64 nx, .int .i64 ny, .slice A5 l.length c5]) (by simp [results, Tryz.results19, go_sem, ckZ_0, ckZ_1, ckZ_2]) rfl (mnr_mk hle5 hmx5 hnil5 hPZ hbZ)

set_option maxHeartbeats 8000000 in
theorem mtouch2_b (Ka Ra Kb Rb : Int) (A B_ : Option Addr) (ca cb n k : Nat) (ps qs : List (Int × Int)) (M : Mn) (h1 : (Ka != 3) = false) (h2 : (Kb == 1) = true) (hC : ∀ w', Pts w' A ps → Pts w' B_ qs → Calls Tryz.prog 43 #[.agg #[.int .i64 Ka, .slice A n ca, .int .i64 Ra], .agg #[.int .i64 Kb, .slice B_ k cb, .int .i64 Rb]] w' (MnR w' M)) (w : World) (ha : Pts w A ps) (hb : Pts w B_ qs) :
    Calls Tryz.prog 19 #[.agg #[.int .i64 Ka, .slice A n ca, .int .i64 Ra], .agg #[.int .i64 Kb, .slice B_ k cb, .int .i64 Rb]] w (MnR w M) := by
  have cR := fun w' h1 h2 => mnr_ex (hC w' h1 h2)
  obtain ⟨nx, ny, l⟩ := M
  clear hC
  go_enter Tryz.func19, Tryz.ntmps19
  go_upto_region 1 with fail
  refine wp_named ?_
  intro W hW
  have kA : blk W w.heap.size #[.int .i64 Ka, .slice A n ca, .int .i64 Ra] 50 := by rw [hW]; exact bBkn
  have kB : blk W (w.heap.size + 1) #[.int .i64 Kb, .slice B_ k cb, .int .i64 Rb] 50 := by rw [hW]; exact bBkn
  have kR : blk W (w.heap.size + 2) #[.int .i64 0, .int .i64 0, .slice none 0 0] 34 := by rw [hW]; exact bBkn
  have hbW : Below w.heap.size w W := by rw [hW]; exact bBel
  clear hW
  have hszW := hbW.size
  have haW := Pts.to ha hbW
  have hbPW := Pts.to hb hbW
  have hRW := blk_lt kR
  have okA := blk_older kA
  have ckA_0 : _ = some _ := blk_cell kA 0
  have ckA_1 : _ = some _ := blk_cell kA 1
  have ckA_2 : _ = some _ := blk_cell kA 2
  have fkA_0 := blk_free kA 0
  have fkA_1 := blk_free kA 1
  have fkA_2 := blk_free kA 2
  have okB := blk_older kB
  have ckB_0 : _ = some _ := blk_cell kB 0
  have ckB_1 : _ = some _ := blk_cell kB 1
  have ckB_2 : _ = some _ := blk_cell kB 2
  have fkB_0 := blk_free kB 0
  have fkB_1 := blk_free kB 1
  have fkB_2 := blk_free kB 2
  have okR := blk_older kR
  have ckR_0 : _ = some _ := blk_cell kR 0
  have ckR_1 : _ = some _ := blk_cell kR 1
  have ckR_2 : _ = some _ := blk_cell kR 2
  have fkR_0 := blk_free kR 0
  have fkR_1 := blk_free kR 1
  have fkR_2 := blk_free kR 2
  go_wp2_with (go_at_call 43; refine Calls.mono (cR _ (Pts.to haW bBel) (Pts.to hbPW bBel)) ?_; rintro e w1 ⟨⟨A5, c5, rfl, hle5, hmx5, hnil5, hP5⟩, q5, rfl⟩)
  refine post_named ?_
  intro Z hZ
  have kZ : blk Z (w.heap.size + 2) #[.int .i64 nx, .int .i64 ny, .slice A5 l.length c5] 34 := by rw [hZ]; exact (by apply blk_of; (repeat (first | with_reducible exact kR | with_reducible apply blk_drew | with_reducible apply blk_gw | with_reducible apply blk_alloc | with_reducible apply blk_set | ((with_reducible apply blk_other); focus omega))); (first | rfl | simp))
  have hbZ : Below w.heap.size w Z := by rw [hZ]; exact bBel
  have hPZ : Cnts Z A5 l := by
    refine cnts_keep (blk_gw kR) hP5 fun b hb => ?_
    rw [hZ]
    repeat (first | with_reducible exact sm_refl _ _ | with_reducible refine sm_gw ?_ | with_reducible refine sm_set ?_ hb)
  clear hZ
  have okZ := blk_older kZ
  have ckZ_0 : _ = some _ := blk_cell kZ 0
  have ckZ_1 : _ = some _ := blk_cell kZ 1
  have ckZ_2 : _ = some _ := blk_cell kZ 2
  have fkZ_0 := blk_free kZ 0
  have fkZ_1 := blk_free kZ 1
  have fkZ_2 := blk_free kZ 2
  exact bodyPost_ret (v := .agg #[.int .i64 nx, .int .i64 ny, .slice A5 l.length c5]) (by simp [results, Tryz.results19, go_sem, ckZ_0, ckZ_1, ckZ_2]) rfl (mnr_mk hle5 hmx5 hnil5 hPZ hbZ)

set_option maxHeartbeats 8000000 in
theorem mtouch3_b (Ka Ra Kb Rb : Int) (A B_ : Option Addr) (ca cb n k : Nat) (ps qs : List (Int × Int)) (M : Mn) (h1 : (Ka != 3) = true) (h2 : (Kb != 3) = false) (h3 : (Kb == 1) = false) (h4 : (Ka == 1) = true) (hlen : M.l.length ≤ 1000000) (hC : ∀ w', Pts w' A ps → Pts w' B_ qs → Calls Tryz.prog 43 #[.agg #[.int .i64 Kb, .slice B_ k cb, .int .i64 Rb], .agg #[.int .i64 Ka, .slice A n ca, .int .i64 Ra]] w' (MnR w' M)) (w : World) (ha : Pts w A ps) (hb : Pts w B_ qs) :
    Calls Tryz.prog 19 #[.agg #[.int .i64 Ka, .slice A n ca, .int .i64 Ra], .agg #[.int .i64 Kb, .slice B_ k cb, .int .i64 Rb]] w (MnR w M.flip) := by
  have cR := fun w' h1 h2 => mnr_ex (hC w' h1 h2)
  obtain ⟨nx, ny, l⟩ := M
  clear hC
  have cF := fun A' c' h1 h2 w' h => mnf_ex (mflip_b nx ny A' c' l hlen h1 h2 w' h)
  go_enter Tryz.func19, Tryz.ntmps19
  go_upto_region 1 with fail
  refine wp_named ?_
  intro W hW
  have kA : blk W w.heap.size #[.int .i64 Ka, .slice A n ca, .int .i64 Ra] 50 := by rw [hW]; exact bBkn
  have kB : blk W (w.heap.size + 1) #[.int .i64 Kb, .slice B_ k cb, .int .i64 Rb] 50 := by rw [hW]; exact bBkn
  have kR : blk W (w.heap.size + 2) #[.int .i64 0, .int .i64 0, .slice none 0 0] 34 := by rw [hW]; exact bBkn
  have hbW : Below w.heap.size w W := by rw [hW]; exact bBel
  clear hW
  have hszW := hbW.size
  have haW := Pts.to ha hbW
  have hbPW := Pts.to hb hbW
  have hRW := blk_lt kR
  have okA := blk_older kA
  have ckA_0 : _ = some _ := blk_cell kA 0
  have ckA_1 : _ = some _ := blk_cell kA 1
  have ckA_2 : _ = some _ := blk_cell kA 2
  have fkA_0 := blk_free kA 0
  have fkA_1 := blk_free kA 1
  have fkA_2 := blk_free kA 2
  have okB := blk_older kB
  have ckB_0 : _ = some _ := blk_cell kB 0
  have ckB_1 : _ = some _ := blk_cell kB 1
  have ckB_2 : _ = some _ := blk_cell kB 2
  have fkB_0 := blk_free kB 0
  have fkB_1 := blk_free kB 1
  have fkB_2 := blk_free kB 2
  have okR := blk_older kR
  have ckR_0 : _ = some _ := blk_cell kR 0
  have ckR_1 : _ = some _ := blk_cell kR 1
  have ckR_2 : _ = some _ := blk_cell kR 2
  have fkR_0 := blk_free kR 0
  have fkR_1 := blk_free kR 1
  have fkR_2 := blk_free kR 2
  go_wp2_with (first | (go_at_call 43; refine Calls.mono (cR _ (Pts.to haW bBel) (Pts.to hbPW bBel)) ?_; rintro e w1 ⟨⟨A5, c5, rfl, hle5, hmx5, hnil5, hP5⟩, q5, rfl⟩) | (go_at_call 44; refine Calls.mono (cF _ _ hle5 hnil5 _ hP5) ?_; rintro e w1 ⟨⟨A6, c6, rfl, hle6, hmx6, hnil6, hP6, hfr6⟩, q6, rfl⟩))
  refine post_named ?_
  intro Z hZ
  have kZ : blk Z (w.heap.size + 2) #[.int .i64 (ng nx), .int .i64 (ng ny), .slice A6 l.length c6] 34 := by rw [hZ]; exact (by apply blk_of; (repeat (first | with_reducible exact kR | with_reducible apply blk_drew | with_reducible apply blk_gw | with_reducible apply blk_alloc | with_reducible apply blk_set | ((with_reducible apply blk_other); focus omega))); (first | rfl | simp))
  have hbZ : Below w.heap.size w Z := by rw [hZ]; exact bBel
  have hPZ : Cnts Z A6 l := by
    refine cnts_keep (blk_gw (blk_gw kR)) hP6 fun b hb => ?_
    rw [hZ]
    repeat (first | with_reducible exact sm_refl _ _ | with_reducible refine sm_gw ?_ | with_reducible refine sm_set ?_ hb)
  clear hZ
  have okZ := blk_older kZ
  have ckZ_0 : _ = some _ := blk_cell kZ 0
  have ckZ_1 : _ = some _ := blk_cell kZ 1
  have ckZ_2 : _ = some _ := blk_cell kZ 2
  have fkZ_0 := blk_free kZ 0
  have fkZ_1 := blk_free kZ 1
  have fkZ_2 := blk_free kZ 2
  exact bodyPost_ret (v := .agg #[.int .i64 (ng nx), .int .i64 (ng ny), .slice A6 l.length c6]) (by simp [results, Tryz.results19, go_sem, ckZ_0, ckZ_1, ckZ_2]) rfl (mnr_mk hle6 hmx6 hnil6 hPZ hbZ)

set_option maxHeartbeats 8000000 in
theorem mtouch4_b (Ka Ra Kb Rb : Int) (A B_ : Option Addr) (ca cb n k : Nat) (ps qs : List (Int × Int)) (M : Mn) (h1 : (Ka != 3) = false) (h3 : (Kb == 1) = false) (h4 : (Ka == 1) = false) (hC : ∀ w', Pts w' A ps → Pts w' B_ qs → Calls Tryz.prog 45 #[.agg #[.int .i64 Ka, .slice A n ca, .int .i64 Ra], .agg #[.int .i64 Kb, .slice B_ k cb, .int .i64 Rb]] w' (MnR w' M)) (w : World) (ha : Pts w A ps) (hb : Pts w B_ qs) :
    Calls Tryz.prog 19 #[.agg #[.int .i64 Ka, .slice A n ca, .int .i64 Ra], .agg #[.int .i64 Kb, .slice B_ k cb, .int .i64 Rb]] w (MnR w M) := by
  have cR := fun w' h1 h2 => mnr_ex (hC w' h1 h2)
  obtain ⟨nx, ny, l⟩ := M
  clear hC
  go_enter Tryz.func19, Tryz.ntmps19
  go_upto_region 1 with fail
  refine wp_named ?_
  intro W hW
  have kA : blk W w.heap.size #[.int .i64 Ka, .slice A n ca, .int .i64 Ra] 50 := by rw [hW]; exact bBkn
  have kB : blk W (w.heap.size + 1) #[.int .i64 Kb, .slice B_ k cb, .int .i64 Rb] 50 := by rw [hW]; exact bBkn
  have kR : blk W (w.heap.size + 2) #[.int .i64 0, .int .i64 0, .slice none 0 0] 34 := by rw [hW]; exact bBkn
  have hbW : Below w.heap.size w W := by rw [hW]; exact bBel
  clear hW
  have hszW := hbW.size
  have haW := Pts.to ha hbW
  have hbPW := Pts.to hb hbW
  have hRW := blk_lt kR
  have okA := blk_older kA
  have ckA_0 : _ = some _ := blk_cell kA 0
  have ckA_1 : _ = some _ := blk_cell kA 1
  have ckA_2 : _ = some _ := blk_cell kA 2
  have fkA_0 := blk_free kA 0
  have fkA_1 := blk_free kA 1
  have fkA_2 := blk_free kA 2
  have okB := blk_older kB
  have ckB_0 : _ = some _ := blk_cell kB 0
  have ckB_1 : _ = some _ := blk_cell kB 1
  have ckB_2 : _ = some _ := blk_cell kB 2
  have fkB_0 := blk_free kB 0
  have fkB_1 := blk_free kB 1
  have fkB_2 := blk_free kB 2
  have okR := blk_older kR
  have ckR_0 : _ = some _ := blk_cell kR 0
  have ckR_1 : _ = some _ := blk_cell kR 1
  have ckR_2 : _ = some _ := blk_cell kR 2
  have fkR_0 := blk_free kR 0
  have fkR_1 := blk_free kR 1
  have fkR_2 := blk_free kR 2
  go_wp2_with (go_at_call 45; refine Calls.mono (cR _ (Pts.to haW bBel) (Pts.to hbPW bBel)) ?_; rintro e w1 ⟨⟨A5, c5, rfl, hle5, hmx5, hnil5, hP5⟩, q5, rfl⟩)
  refine post_named ?_
  intro Z hZ
  have kZ : blk Z (w.heap.size + 2) #[.int .i64 nx, .int .i64 ny, .slice A5 l.length c5] 34 := by rw [hZ]; exact (by apply blk_of; (repeat (first | with_reducible exact kR | with_reducible apply blk_drew | with_reducible apply blk_gw | with_reducible apply blk_alloc | with_reducible apply blk_set | ((with_reducible apply blk_other); focus omega))); (first | rfl | simp))
  have hbZ : Below w.heap.size w Z := by rw [hZ]; exact bBel
  have hPZ : Cnts Z A5 l := by
    refine cnts_keep (blk_gw kR) hP5 fun b hb => ?_
    rw [hZ]
    repeat (first | with_reducible exact sm_refl _ _ | with_reducible refine sm_gw ?_ | with_reducible refine sm_set ?_ hb)
  clear hZ
  have okZ := blk_older kZ
  have ckZ_0 : _ = some _ := blk_cell kZ 0
  have ckZ_1 : _ = some _ := blk_cell kZ 1
  have ckZ_2 : _ = some _ := blk_cell kZ 2
  have fkZ_0 := blk_free kZ 0
  have fkZ_1 := blk_free kZ 1
  have fkZ_2 := blk_free kZ 2
  exact bodyPost_ret (v := .agg #[.int .i64 nx, .int .i64 ny, .slice A5 l.length c5]) (by simp [results, Tryz.results19, go_sem, ckZ_0, ckZ_1, ckZ_2]) rfl (mnr_mk hle5 hmx5 hnil5 hPZ hbZ)

set_option maxHeartbeats 8000000 in
theorem mtouch5_b (Ka Ra Kb Rb : Int) (A B_ : Option Addr) (ca cb n k : Nat) (ps qs : List (Int × Int)) (M : Mn) (h1 : (Ka != 3) = true) (h2 : (Kb != 3) = false) (h3 : (Kb == 1) = false) (h4 : (Ka == 1) = false) (hC : ∀ w', Pts w' A ps → Pts w' B_ qs → Calls Tryz.prog 45 #[.agg #[.int .i64 Ka, .slice A n ca, .int .i64 Ra], .agg #[.int .i64 Kb, .slice B_ k cb, .int .i64 Rb]] w' (MnR w' M)) (w : World) (ha : Pts w A ps) (hb : Pts w B_ qs) :
    Calls Tryz.prog 19 #[.agg #[.int .i64 Ka, .slice A n ca, .int .i64 Ra], .agg #[.int .i64 Kb, .slice B_ k cb, .int .i64 Rb]] w (MnR w M) := by
  have cR := fun w' h1 h2 => mnr_ex (hC w' h1 h2)
  obtain ⟨nx, ny, l⟩ := M
  clear hC
  go_enter Tryz.func19, Tryz.ntmps19
  go_upto_region 1 with fail
  refine wp_named ?_
  intro W hW
  have kA : blk W w.heap.size #[.int .i64 Ka, .slice A n ca, .int .i64 Ra] 50 := by rw [hW]; exact bBkn
  have kB : blk W (w.heap.size + 1) #[.int .i64 Kb, .slice B_ k cb, .int .i64 Rb] 50 := by rw [hW]; exact bBkn
  have kR : blk W (w.heap.size + 2) #[.int .i64 0, .int .i64 0, .slice none 0 0] 34 := by rw [hW]; exact bBkn
  have hbW : Below w.heap.size w W := by rw [hW]; exact bBel
  clear hW
  have hszW := hbW.size
  have haW := Pts.to ha hbW
  have hbPW := Pts.to hb hbW
  have hRW := blk_lt kR
  have okA := blk_older kA
  have ckA_0 : _ = some _ := blk_cell kA 0
  have ckA_1 : _ = some _ := blk_cell kA 1
  have ckA_2 : _ = some _ := blk_cell kA 2
  have fkA_0 := blk_free kA 0
  have fkA_1 := blk_free kA 1
  have fkA_2 := blk_free kA 2
  have okB := blk_older kB
  have ckB_0 : _ = some _ := blk_cell kB 0
  have ckB_1 : _ = some _ := blk_cell kB 1
  have ckB_2 : _ = some _ := blk_cell kB 2
  have fkB_0 := blk_free kB 0
  have fkB_1 := blk_free kB 1
  have fkB_2 := blk_free kB 2
  have okR := blk_older kR
  have ckR_0 : _ = some _ := blk_cell kR 0
  have ckR_1 : _ = some _ := blk_cell kR 1
  have ckR_2 : _ = some _ := blk_cell kR 2
  have fkR_0 := blk_free kR 0
  have fkR_1 := blk_free kR 1
  have fkR_2 := blk_free kR 2
  go_wp2_with (go_at_call 45; refine Calls.mono (cR _ (Pts.to haW bBel) (Pts.to hbPW bBel)) ?_; rintro e w1 ⟨⟨A5, c5, rfl, hle5, hmx5, hnil5, hP5⟩, q5, rfl⟩)
  refine post_named ?_
  intro Z hZ
  have kZ : blk Z (w.heap.size + 2) #[.int .i64 nx, .int .i64 ny, .slice A5 l.length c5] 34 := by rw [hZ]; exact (by apply blk_of; (repeat (first | with_reducible exact kR | with_reducible apply blk_drew | with_reducible apply blk_gw | with_reducible apply blk_alloc | with_reducible apply blk_set | ((with_reducible apply blk_other); focus omega))); (first | rfl | simp))
  have hbZ : Below w.heap.size w Z := by rw [hZ]; exact bBel
  have hPZ : Cnts Z A5 l := by
    refine cnts_keep (blk_gw kR) hP5 fun b hb => ?_
    rw [hZ]
    repeat (first | with_reducible exact sm_refl _ _ | with_reducible refine sm_gw ?_ | with_reducible refine sm_set ?_ hb)
  clear hZ
  have okZ := blk_older kZ
  have ckZ_0 : _ = some _ := blk_cell kZ 0
  have ckZ_1 : _ = some _ := blk_cell kZ 1
  have ckZ_2 : _ = some _ := blk_cell kZ 2
  have fkZ_0 := blk_free kZ 0
  have fkZ_1 := blk_free kZ 1
  have fkZ_2 := blk_free kZ 2
  exact bodyPost_ret (v := .agg #[.int .i64 nx, .int .i64 ny, .slice A5 l.length c5]) (by simp [results, Tryz.results19, go_sem, ckZ_0, ckZ_1, ckZ_2]) rfl (mnr_mk hle5 hmx5 hnil5 hPZ hbZ)

end Go.Proofs.YtiecpebckmihgaaGreat
