/- Package massdata, the landed code: slices.ContainsFunc at mass data, hasNegativeMass, commonCenter, Combine. -/
import Derived.Test.YtelmmjejgolefaaCoA
import Derived.Test.YtelmmjejgolefaaCoD
import Derived.Shelf.SlicesQ.IndexFunc
import Derived.Shelf.SlGeneric
set_option linter.unusedVariables false
namespace Go.Proofs.Ytelmmjejgolefaa
open Go.RowKit Fx

def cfRen : Go.Shelf.Ren := ⟨fun
  | 6 => 65
  | 8 => 33
  | n => n, fun
  | 0 => 0
  | 3 => 3
  | 4 => 4
  | 22 => 33
  | 23 => 30
  | 25 => 59
  | n => n, fun n => n⟩
theorem cf_lays : SlLaysH0.n8 Try.prog cfRen := {
  mixed := by kernel_rfl
  f6 := ⟨"slices.IndexFunc[[]carom/api.MassData,carom/api.MassData]", by decide, by kernel_rfl⟩
  f8 := ⟨"slices.ContainsFunc[[]carom/api.MassData,carom/api.MassData]", by decide, by kernel_rfl⟩
  t0 := by kernel_rfl
  a0 := fun _ => by kernel_rfl
  z0 := fun _ => by kernel_rfl
  v0 := fun _ => by kernel_rfl
  t3 := by kernel_rfl
  a3 := fun _ => by kernel_rfl
  z3 := fun _ => by kernel_rfl
  v3 := fun _ => by kernel_rfl
  t4 := by kernel_rfl
  a4 := fun _ => by kernel_rfl
  z4 := fun _ => by kernel_rfl
  v4 := fun _ => by kernel_rfl
  t22 := by kernel_rfl
  a22 := fun _ => by kernel_rfl
  z22 := fun _ => by kernel_rfl
  v22 := fun _ => by kernel_rfl
  t25 := by kernel_rfl
  a25 := fun _ => by kernel_rfl
  z25 := fun _ => by kernel_rfl
  v25 := fun _ => by kernel_rfl }

theorem yneg_b (M x y I : Int) (w : World) : Calls Try.prog 34 #[.agg #[.int .i64 M, .int .i64 x, .int .i64 y, .int .i64 I]] w fun e w' => e = .returned (.bool (decide (M < 0))) ∧ Below w.heap.size w w' := by
  go_enter Try.func34, Try.ntmps34
  go_wp2_with fail
  go_ret
  exact ⟨rfl, (by repeat (first | with_reducible exact Below.refl _ _ | with_reducible assumption | refine bgw ?_ (by first | (simp; done) | (simp; omega) | omega) _ | refine Below.setCell ?_ (by first | exact Nat.le_of_not_lt (by assumption) | (simp; done) | (simp; omega) | omega) _ | refine Below.alloc ?_ (by first | (simp; done) | (simp; omega) | omega) _ | refine Below.drew ?_))⟩

theorem xif0_b (A : Option Addr) (cap : Nat) (f : Value) (w : World) : Calls Try.prog 65 #[.slice A 0 cap, f] w fun e w' => e = .returned (.int .i64 (-1)) ∧ Below w.heap.size w w' := by
  go_enter Try.func65, Try.ntmps65
  go_wp2_with fail
  go_loopw [8] (fun i wr => i = .int .i64 0 ∧ wr = w)
    (fun _ _ => 0)
  case atStart => exact ⟨rfl, rfl⟩
  case round =>
    obtain ⟨rfl, rfl⟩ := hrel
    go_wp2_with fail
    go_ret
    exact ⟨rfl, Below.refl _ _⟩

theorem xcf_b (A : Option Addr) (cap : Nat) (l : List Md) (hl : l.length ≤ 4611686018427387904) (w : World) (ha : Mds w A l) : Calls Try.prog 33 #[.slice A l.length cap, .func (.func 34) #[] #[]] w fun e w' => e = .returned (.bool (l.any fun p => decide (p.m < 0))) ∧ Below w.heap.size w w' := by
  by_cases h0 : l.length = 0
  · obtain rfl : l = [] := List.length_eq_zero_iff.1 h0
    go_enter Try.func33, Try.ntmps33
    go_wp2_with (go_at_call 65; refine Calls.mono (gw_at (xif0_b _ _ _ _)) ?_; rintro e w1 ⟨rfl, q, rfl⟩)
    go_ret
    exact ⟨rfl, (by repeat (first | with_reducible exact Below.refl _ _ | with_reducible assumption | refine bgw ?_ (by first | (simp; done) | (simp; omega) | omega) _ | refine Below.setCell ?_ (by first | exact Nat.le_of_not_lt (by assumption) | (simp; done) | (simp; omega) | omega) _ | refine Below.alloc ?_ (by first | (simp; done) | (simp; omega) | omega) _ | refine Below.drew ?_))⟩
  · obtain ⟨b, off, rfl, hc⟩ := mds_open ha (by omega)
    have hb : b < w.heap.size := older_iff.1 (older_of_cell (hc 0 (by omega) w (Below.refl _ _)).1)
    have hI : Inhabited Md := ⟨Md.zero⟩
    have L := AnyQ.slices_ContainsFunc cf_lays 4 (fun _ => by kernel_rfl) (fun _ => by kernel_rfl) mdc (fun _ => rfl) (fun p => decide (p.m < 0)) 34 #[] (enters_of Try.func34 (by kernel_rfl) rfl) b off l.length cap l w
      (fun W x hW => Calls.mono (yneg_b x.m x.x x.y x.i W) (fun e w' h => ⟨h.1, Below.trans hW (h.2.mono hW.size)⟩)) (Nat.le_refl _) (by omega) hb
      (fun j hj i v hv => by
        obtain ⟨g0, g1, g2, g3⟩ := hc j hj w (Below.refl _ _)
        rw [getElem!_pos l j hj] at hv
        match i, hv with
        | 0, hv => simp [mdc] at hv; subst hv; exact g0
        | 1, hv => simp [mdc] at hv; subst hv; exact g1
        | 2, hv => simp [mdc] at hv; subst hv; exact g2
        | 3, hv => simp [mdc] at hv; subst hv; exact g3
        | i + 4, hv => simp [mdc] at hv)
    rw [List.take_length] at L
    exact L

theorem ccx_rd (l : List Md) : ccx l = rdiv (cmx l) (csum l) := by
  unfold ccx; split
  · rfl
  · exact (rdiv_out (by omega)).symm
theorem ccy_rd (l : List Md) : ccy l = rdiv (cmy l) (csum l) := by
  unfold ccy; split
  · rfl
  · exact (rdiv_out (by omega)).symm
theorem add_satr (a b : Int) : add a (sat b) = add a b := by unfold add; rw [sat_sat]

set_option maxHeartbeats 8000000 in
theorem ycc_b (A : Option Addr) (cap : Nat) (l : List Md) (h8 : l.length ≤ 8) (w : World) (ha : Mds w A l) : Calls Try.prog 35 #[.slice A l.length cap] w fun e w' => e = .returned (.agg #[.int .i64 (ccx l), .int .i64 (ccy l)]) ∧ Below w.heap.size w w' := by
  rw [ccx_rd, ccy_rd]
  have s1 := csum_in l
  have s2 := cmx_in l
  have s3 := cmy_in l
  have f1 : ∀ k (h : k < l.length), Hid (csum (l.take (k + 1)) = csum (l.take k) + sat l[k].m) := fun k h => fold_take _ _ _ h
  have f2 : ∀ k (h : k < l.length), Hid (cmx (l.take (k + 1)) = cmx (l.take k) + sat l[k].m * sat l[k].x) := fun k h => fold_take _ _ _ h
  have f3 : ∀ k (h : k < l.length), Hid (cmy (l.take (k + 1)) = cmy (l.take k) + sat l[k].m * sat l[k].y) := fun k h => fold_take _ _ _ h
  go_enter Try.func35, Try.ntmps35
  go_wp2_with fail
  go_loopw [3, 10] (fun m i wr => ∃ k : Nat, k ≤ l.length ∧ i = .int .i64 (k : Int) ∧ m = .int .i64 (csum (l.take k)) ∧ blk wr w.heap.size #[.int .i64 0, .int .i64 0] 28 ∧ blk wr (w.heap.size + 1) #[.int .i64 (cmx (l.take k)), .int .i64 (cmy (l.take k))] 28 ∧ Below w.heap.size w wr)
    (fun _ i _ => (l.length - intOf i).toNat)
  case atStart => exact ⟨0, by omega, rfl, rfl, (by repeat (first | with_reducible exact blk_new _ _ _ | ((with_reducible refine blk_at ?_); (simp; done)) | with_reducible apply blk_alloc | with_reducible apply blk_gw | with_reducible apply blk_drew)), by show blk _ _ #[.int .i64 0, .int .i64 0] _; exact (by repeat (first | with_reducible exact blk_new _ _ _ | ((with_reducible refine blk_at ?_); (simp; done)) | with_reducible apply blk_alloc | with_reducible apply blk_gw | with_reducible apply blk_drew)), (by repeat (first | with_reducible exact Below.refl _ _ | with_reducible assumption | refine bgw ?_ (by first | (simp; done) | (simp; omega) | omega) _ | refine Below.setCell ?_ (by first | exact Nat.le_of_not_lt (by assumption) | (simp; done) | (simp; omega) | omega) _ | refine Below.alloc ?_ (by first | (simp; done) | (simp; omega) | omega) _ | refine Below.drew ?_))⟩
  case round =>
    obtain ⟨k, hk, rfl, rfl, kR, kM, hbw⟩ := hrel
    have hsz := hbw.size
    have hltM := blk_lt kM
    have okR := blk_older kR
    have ckR_0 : _ = some _ := blk_cell kR 0
    have ckR_1 : _ = some _ := blk_cell kR 1
    have fkR_0 := blk_free kR 0
    have fkR_1 := blk_free kR 1
    have okM := blk_older kM
    have ckM_0 : _ = some _ := blk_cell kM 0
    have ckM_1 : _ = some _ := blk_cell kM 1
    have fkM_0 := blk_free kM 0
    have fkM_1 := blk_free kM 1
    by_cases hlt : k < l.length
    · have j0 : (0 : Int) ≤ (k : Int) := by omega
      have j1 : (k : Int) < (l.length : Int) := by omega
      obtain ⟨b2, off2, hA2, hc2⟩ := mds_open ha (by omega)
      subst hA2
      obtain ⟨d0, d1, d2, d3⟩ := hc2 k hlt _ hbw
      have od := older_of_cell d0
      have g1 := f1 k hlt
      have g2 := f2 k hlt
      have g3 := f3 k hlt
      have t1 := s1 (k + 1)
      have t2 := s2 (k + 1)
      have t3 := s3 (k + 1)
      clear f1 f2 f3 s1 s2 s3 hc2
      generalize l[k].m = M at *
      generalize l[k].x = X at *
      generalize l[k].y = Y at *
      generalize l[k].i = I at *
      have p2 := satmul M X
      have p3 := satmul M Y
      have u1 := g1.out
      have u2 := g2.out
      have u3 := g3.out
      have r1 : wrap64 (csum (l.take k) + sat M) = csum (l.take k) + sat M := by rw [← u1]; unfold wrap64; omega
      have r2 : wrap64 (sat M * sat X) = sat M * sat X := by unfold wrap64; omega
      have r3 : wrap64 (cmx (l.take k) + sat M * sat X) = cmx (l.take k) + sat M * sat X := by rw [← u2]; unfold wrap64; omega
      have r4 : wrap64 (sat M * sat Y) = sat M * sat Y := by unfold wrap64; omega
      have r5 : wrap64 (cmy (l.take k) + sat M * sat Y) = cmy (l.take k) + sat M * sat Y := by rw [← u3]; unfold wrap64; omega
      clear t1 t2 t3 p2 p3 u1 u2 u3
      generalize csum (l.take k) = S1 at *
      generalize cmx (l.take k) = S2 at *
      generalize cmy (l.take k) = S3 at *
      go_upto_region 8 with (go_at_call 66; refine Calls.mono (gw_at (sat_b _ _)) ?_; rintro e w1 ⟨rfl, q, rfl⟩)
      refine wp_named ?_
      intro V hV
      have kP : blk V wr.heap.size #[.int .i64 M, .int .i64 X, .int .i64 Y, .int .i64 I] 30 := by rw [hV]; exact (by repeat (first | with_reducible exact blk_new _ _ _ | ((with_reducible refine blk_at ?_); (simp; done)) | with_reducible apply blk_alloc | with_reducible apply blk_gw | with_reducible apply blk_drew))
      have kR2 : blk V w.heap.size #[.int .i64 0, .int .i64 0] 28 := by rw [hV]; exact (by apply blk_of; (repeat (first | with_reducible exact kR | with_reducible apply blk_drew | with_reducible apply blk_gw | with_reducible apply blk_alloc | with_reducible apply blk_set | ((with_reducible apply blk_other); focus omega))); (first | rfl | simp))
      have kM2 : blk V (w.heap.size + 1) #[.int .i64 S2, .int .i64 S3] 28 := by rw [hV]; exact (by apply blk_of; (repeat (first | with_reducible exact kM | with_reducible apply blk_drew | with_reducible apply blk_gw | with_reducible apply blk_alloc | with_reducible apply blk_set | ((with_reducible apply blk_other); focus omega))); (first | rfl | simp))
      have hbV : Below w.heap.size w V := by rw [hV]; exact (by repeat (first | with_reducible exact Below.refl _ _ | with_reducible assumption | refine bgw ?_ (by first | (simp; done) | (simp; omega) | omega) _ | refine Below.setCell ?_ (by first | exact Nat.le_of_not_lt (by assumption) | (simp; done) | (simp; omega) | omega) _ | refine Below.alloc ?_ (by first | (simp; done) | (simp; omega) | omega) _ | refine Below.drew ?_))
      clear hV kR kM okR okM ckR_0 ckR_1 fkR_0 fkR_1 ckM_0 ckM_1 fkM_0 fkM_1 d0 d1 d2 d3 od hbw
      generalize wr.heap.size = P at *
      have hszV := hbV.size
      have okP := blk_older kP
      have ckP_0 : _ = some _ := blk_cell kP 0
      have ckP_1 : _ = some _ := blk_cell kP 1
      have ckP_2 : _ = some _ := blk_cell kP 2
      have ckP_3 : _ = some _ := blk_cell kP 3
      have fkP_0 := blk_free kP 0
      have fkP_1 := blk_free kP 1
      have fkP_2 := blk_free kP 2
      have fkP_3 := blk_free kP 3
      have okR2 := blk_older kR2
      have ckR2_0 : _ = some _ := blk_cell kR2 0
      have ckR2_1 : _ = some _ := blk_cell kR2 1
      have fkR2_0 := blk_free kR2 0
      have fkR2_1 := blk_free kR2 1
      have okM2 := blk_older kM2
      have ckM2_0 : _ = some _ := blk_cell kM2 0
      have ckM2_1 : _ = some _ := blk_cell kM2 1
      have fkM2_0 := blk_free kM2 0
      have fkM2_1 := blk_free kM2 1
      refine wp_region_gw_tail 10 (by kernel_rfl) (by kernel_rfl) ?_
      simp only [List.take_succ_cons, List.take_zero, List.drop_succ_cons, List.drop_zero]
      repeat (go_big_quiet_step ((first | (go_at_call 66; exact gw_call (sat_b _ _)) | (go_at_call 48; exact gw_call (rd_b _ _ _)))))
      refine wpQuiet_nil ?_
      intro w1 hw1
      obtain ⟨q, rfl⟩ := hw1
      go_upto_region 9 with fail
      refine wp_named ?_
      intro U hU
      have kP2 : blk U P #[.int .i64 M, .int .i64 X, .int .i64 Y, .int .i64 I] 30 := by rw [hU]; exact (by apply blk_of; (repeat (first | with_reducible exact kP | with_reducible apply blk_drew | with_reducible apply blk_gw | with_reducible apply blk_alloc | with_reducible apply blk_set | ((with_reducible apply blk_other); focus omega))); (first | rfl | simp))
      have kR3 : blk U w.heap.size #[.int .i64 0, .int .i64 0] 28 := by rw [hU]; exact (by apply blk_of; (repeat (first | with_reducible exact kR2 | with_reducible apply blk_drew | with_reducible apply blk_gw | with_reducible apply blk_alloc | with_reducible apply blk_set | ((with_reducible apply blk_other); focus omega))); (first | rfl | simp))
      have kM3 : blk U (w.heap.size + 1) #[.int .i64 (S2 + sat M * sat X), .int .i64 S3] 28 := by rw [hU]; exact (by apply blk_of; (repeat (first | with_reducible exact kM2 | with_reducible apply blk_drew | with_reducible apply blk_gw | with_reducible apply blk_alloc | with_reducible apply blk_set | ((with_reducible apply blk_other); focus omega))); (first | rfl | simp))
      have hbU : Below w.heap.size w U := by rw [hU]; exact (by repeat (first | with_reducible exact Below.refl _ _ | with_reducible assumption | refine bgw ?_ (by first | (simp; done) | (simp; omega) | omega) _ | refine Below.setCell ?_ (by first | exact Nat.le_of_not_lt (by assumption) | (simp; done) | (simp; omega) | omega) _ | refine Below.alloc ?_ (by first | (simp; done) | (simp; omega) | omega) _ | refine Below.drew ?_))
      clear hU kP kR2 kM2 okP okR2 okM2 ckP_0 ckP_1 ckP_2 ckP_3 fkP_0 fkP_1 fkP_2 fkP_3 ckR2_0 ckR2_1 fkR2_0 fkR2_1 ckM2_0 ckM2_1 fkM2_0 fkM2_1 hbV hszV
      have hszU := hbU.size
      have okP2 := blk_older kP2
      have ckP2_0 : _ = some _ := blk_cell kP2 0
      have ckP2_1 : _ = some _ := blk_cell kP2 1
      have ckP2_2 : _ = some _ := blk_cell kP2 2
      have ckP2_3 : _ = some _ := blk_cell kP2 3
      have fkP2_0 := blk_free kP2 0
      have fkP2_1 := blk_free kP2 1
      have fkP2_2 := blk_free kP2 2
      have fkP2_3 := blk_free kP2 3
      have okR3 := blk_older kR3
      have ckR3_0 : _ = some _ := blk_cell kR3 0
      have ckR3_1 : _ = some _ := blk_cell kR3 1
      have fkR3_0 := blk_free kR3 0
      have fkR3_1 := blk_free kR3 1
      have okM3 := blk_older kM3
      have ckM3_0 : _ = some _ := blk_cell kM3 0
      have ckM3_1 : _ = some _ := blk_cell kM3 1
      have fkM3_0 := blk_free kM3 0
      have fkM3_1 := blk_free kM3 1
      refine wp_region_gw_tail 10 (by kernel_rfl) (by kernel_rfl) ?_
      simp only [List.take_succ_cons, List.take_zero, List.drop_succ_cons, List.drop_zero]
      repeat (go_big_quiet_step ((first | (go_at_call 66; exact gw_call (sat_b _ _)) | (go_at_call 48; exact gw_call (rd_b _ _ _)))))
      refine wpQuiet_nil ?_
      intro w1 hw1
      obtain ⟨q, rfl⟩ := hw1
      go_wp2_with fail
      exact ⟨⟨k + 1, by omega, by go_num, by first | (rw [g1.out]; done) | (rw [g1.out, r1]; done), (by apply blk_of; (repeat (first | with_reducible exact kR3 | with_reducible apply blk_drew | with_reducible apply blk_gw | with_reducible apply blk_alloc | with_reducible apply blk_set | ((with_reducible apply blk_other); focus omega))); (first | rfl | simp)), by rw [g2.out, g3.out]; exact (by apply blk_of; (repeat (first | with_reducible exact kM3 | with_reducible apply blk_drew | with_reducible apply blk_gw | with_reducible apply blk_alloc | with_reducible apply blk_set | ((with_reducible apply blk_other); focus omega))); (first | rfl | simp)), (by repeat (first | with_reducible exact Below.refl _ _ | with_reducible assumption | refine bgw ?_ (by first | (simp; done) | (simp; omega) | omega) _ | refine Below.setCell ?_ (by first | exact Nat.le_of_not_lt (by assumption) | (simp; done) | (simp; omega) | omega) _ | refine Below.alloc ?_ (by first | (simp; done) | (simp; omega) | omega) _ | refine Below.drew ?_))⟩, by (try go_num); simp [intOf]; (try omega)⟩
    · obtain rfl : k = l.length := by omega
      have j1 : ¬ (l.length : Int) < (l.length : Int) := by omega
      rw [List.take_length] at *
      clear f1 f2 f3 s1 s2 s3
      go_wp2_with fail
      refine wp_region_gw_tail 9 (by kernel_rfl) (by kernel_rfl) ?_
      simp only [List.take_succ_cons, List.take_zero, List.drop_succ_cons, List.drop_zero]
      repeat (go_big_quiet_step ((first | (go_at_call 66; exact gw_call (sat_b _ _)) | (go_at_call 48; exact gw_call (rd_b _ _ _)))))
      refine wpQuiet_nil ?_
      intro w1 hw1
      obtain ⟨q, rfl⟩ := hw1
      go_wp2_with fail
      refine post_named ?_
      intro Z hZ
      have kZ : blk Z w.heap.size #[.int .i64 (rdiv (cmx l) (csum l)), .int .i64 (rdiv (cmy l) (csum l))] 28 := by rw [hZ]; exact (by apply blk_of; (repeat (first | with_reducible exact kR | with_reducible apply blk_drew | with_reducible apply blk_gw | with_reducible apply blk_alloc | with_reducible apply blk_set | ((with_reducible apply blk_other); focus omega))); (first | rfl | simp))
      have hbZ : Below w.heap.size w Z := by rw [hZ]; exact (by repeat (first | with_reducible exact Below.refl _ _ | with_reducible assumption | refine bgw ?_ (by first | (simp; done) | (simp; omega) | omega) _ | refine Below.setCell ?_ (by first | exact Nat.le_of_not_lt (by assumption) | (simp; done) | (simp; omega) | omega) _ | refine Below.alloc ?_ (by first | (simp; done) | (simp; omega) | omega) _ | refine Below.drew ?_))
      clear hZ
      have okZ := blk_older kZ
      have ckZ_0 : _ = some _ := blk_cell kZ 0
      have ckZ_1 : _ = some _ := blk_cell kZ 1
      have fkZ_0 := blk_free kZ 0
      have fkZ_1 := blk_free kZ 1
      exact bodyPost_ret (v := .agg #[.int .i64 (rdiv (cmx l) (csum l)), .int .i64 (rdiv (cmy l) (csum l))]) (by simp [results, Try.results35, go_sem, ckZ_0, ckZ_1]) rfl ⟨rfl, hbZ⟩

end Go.Proofs.Ytelmmjejgolefaa
