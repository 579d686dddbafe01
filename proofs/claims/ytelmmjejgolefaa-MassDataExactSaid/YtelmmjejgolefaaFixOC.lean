/- Package massdata, the landed code: Combine, OfFixtures. -/
import Derived.Test.YtelmmjejgolefaaFixOA
import Derived.Test.YtelmmjejgolefaaFixOB
set_option linter.unusedVariables false
namespace Go.Proofs.Ytelmmjejgolefaa
open Go.RowKit Fx

set_option maxRecDepth 100000 in
set_option maxHeartbeats 16000000 in
theorem ycomb_b (A : Option Addr) (cap : Nat) (l : List Md) (hl : l.length ≤ 1000000) (w : World) (ha : Mds w A l) : Calls Try.prog 12 #[.slice A l.length cap] w fun e w' => e = .returned (.agg #[.int .i64 (comb l).m, .int .i64 (comb l).x, .int .i64 (comb l).y, .int .i64 (comb l).i]) ∧ Below w.heap.size w w' := by
  have cF := fun w' h => xcf_b A cap l (by omega) w' h
  by_cases h8 : 8 < l.length
  focus
    have e : comb l = Md.zero := if_pos (.inl h8)
    have i8 : (8 : Int) < (l.length : Int) := by omega
    rw [e]
    clear e h8
    go_enter Try.func12, Try.ntmps12
    go_wp2_with fail
    refine post_named ?_
    intro Z hZ
    have kZ : blk Z w.heap.size #[.int .i64 0, .int .i64 0, .int .i64 0, .int .i64 0] 30 := by rw [hZ]; exact (by repeat (first | with_reducible exact blk_new _ _ _ | ((with_reducible refine blk_at ?_); (simp; done)) | with_reducible apply blk_alloc | with_reducible apply blk_gw | with_reducible apply blk_drew))
    have hbZ : Below w.heap.size w Z := by rw [hZ]; exact (by repeat (first | with_reducible exact Below.refl _ _ | with_reducible assumption | refine bgw ?_ (by first | (simp; done) | (simp; omega) | omega) _ | refine Below.setCell ?_ (by first | exact Nat.le_of_not_lt (by assumption) | (simp; done) | (simp; omega) | omega) _ | refine Below.alloc ?_ (by first | (simp; done) | (simp; omega) | omega) _ | refine Below.drew ?_))
    clear hZ
    have okZ := blk_older kZ
    have ckZ_0 : _ = some _ := blk_cell kZ 0
    have ckZ_1 : _ = some _ := blk_cell kZ 1
    have ckZ_2 : _ = some _ := blk_cell kZ 2
    have ckZ_3 : _ = some _ := blk_cell kZ 3
    have fkZ_0 := blk_free kZ 0
    have fkZ_1 := blk_free kZ 1
    have fkZ_2 := blk_free kZ 2
    have fkZ_3 := blk_free kZ 3
    exact bodyPost_ret (v := .agg #[.int .i64 0, .int .i64 0, .int .i64 0, .int .i64 0]) (by simp [results, Try.results12, go_sem, ckZ_0, ckZ_1, ckZ_2, ckZ_3]) rfl ⟨rfl, hbZ⟩
  have i8 : ¬ (8 : Int) < (l.length : Int) := by omega
  cases hn : l.any fun p => decide (p.m < 0)
  rotate_left
  focus
    have e : comb l = Md.zero := if_pos (.inr (by simpa using hn))
    rw [e]
    rw [hn] at cF
    clear e h8 hn
    go_enter Try.func12, Try.ntmps12
    go_wp2_with (go_at_call 33; refine Calls.mono (gw_at (cF _ (Mds.to ha (by repeat (first | with_reducible exact Below.refl _ _ | with_reducible assumption | refine bgw ?_ (by first | (simp; done) | (simp; omega) | omega) _ | refine Below.setCell ?_ (by first | exact Nat.le_of_not_lt (by assumption) | (simp; done) | (simp; omega) | omega) _ | refine Below.alloc ?_ (by first | (simp; done) | (simp; omega) | omega) _ | refine Below.drew ?_))))) ?_; rintro e w1 ⟨rfl, q, rfl⟩)
    refine post_named ?_
    intro Z hZ
    have kZ : blk Z w.heap.size #[.int .i64 0, .int .i64 0, .int .i64 0, .int .i64 0] 30 := by rw [hZ]; first | exact (by repeat (first | with_reducible exact blk_new _ _ _ | ((with_reducible refine blk_at ?_); (simp; done)) | with_reducible apply blk_alloc | with_reducible apply blk_gw | with_reducible apply blk_drew)) | exact (by apply blk_of; (repeat (first  | with_reducible apply blk_drew | with_reducible apply blk_gw | with_reducible apply blk_alloc | with_reducible apply blk_set | ((with_reducible apply blk_other); focus omega))); (first | rfl | simp))
    have hbZ : Below w.heap.size w Z := by rw [hZ]; exact (by repeat (first | with_reducible exact Below.refl _ _ | with_reducible assumption | refine bgw ?_ (by first | (simp; done) | (simp; omega) | omega) _ | refine Below.setCell ?_ (by first | exact Nat.le_of_not_lt (by assumption) | (simp; done) | (simp; omega) | omega) _ | refine Below.alloc ?_ (by first | (simp; done) | (simp; omega) | omega) _ | refine Below.drew ?_))
    clear hZ
    have okZ := blk_older kZ
    have ckZ_0 : _ = some _ := blk_cell kZ 0
    have ckZ_1 : _ = some _ := blk_cell kZ 1
    have ckZ_2 : _ = some _ := blk_cell kZ 2
    have ckZ_3 : _ = some _ := blk_cell kZ 3
    have fkZ_0 := blk_free kZ 0
    have fkZ_1 := blk_free kZ 1
    have fkZ_2 := blk_free kZ 2
    have fkZ_3 := blk_free kZ 3
    exact bodyPost_ret (v := .agg #[.int .i64 0, .int .i64 0, .int .i64 0, .int .i64 0]) (by simp [results, Try.results12, go_sem, ckZ_0, ckZ_1, ckZ_2, ckZ_3]) rfl ⟨rfl, hbZ⟩
  have e : comb l = ⟨cmass l, ccx l, ccy l, cin (ccx l) (ccy l) l⟩ := if_neg (by
    rintro (g | ⟨p, hp, g⟩)
    · exact h8 g
    · have := List.any_eq_false.1 hn p hp; simp at this; omega)
  rw [e]
  rw [hn] at cF
  have cC := fun w' h => ycc_b A cap l (by omega) w' h
  have f0 : ∀ k (h : k < l.length), Hid (cmass (l.take (k + 1)) = add (cmass (l.take k)) l[k].m) := fun k h => by
    show _ = _; rw [← add_satr]; exact fold_take _ _ _ h
  have f4 : ∀ k (h : k < l.length), Hid (cin (ccx l) (ccy l) (l.take (k + 1)) = add (add (cin (ccx l) (ccy l) (l.take k)) l[k].i) (mul l[k].m (dot (sub l[k].x (ccx l)) (sub l[k].y (ccy l)) (sub l[k].x (ccx l)) (sub l[k].y (ccy l))))) := fun k h => fold_take _ _ _ h
  have z0 : cmass (l.take 0) = 0 := rfl
  have z4 : cin (ccx l) (ccy l) (l.take 0) = 0 := rfl
  have e0 : cmass (l.take l.length) = cmass l := by rw [List.take_length]
  have e4 : cin (ccx l) (ccy l) (l.take l.length) = cin (ccx l) (ccy l) l := by rw [List.take_length]
  clear e hn h8
  generalize ccx l = cx at *
  generalize ccy l = cy at *
  go_enter Try.func12, Try.ntmps12
  go_upto_region 4 with (first | (go_at_call 33; refine Calls.mono (gw_at (cF _ (Mds.to ha (by repeat (first | with_reducible exact Below.refl _ _ | with_reducible assumption | refine bgw ?_ (by first | (simp; done) | (simp; omega) | omega) _ | refine Below.setCell ?_ (by first | exact Nat.le_of_not_lt (by assumption) | (simp; done) | (simp; omega) | omega) _ | refine Below.alloc ?_ (by first | (simp; done) | (simp; omega) | omega) _ | refine Below.drew ?_))))) ?_; rintro e w1 ⟨rfl, q, rfl⟩) | (go_at_call 35; refine Calls.mono (gw_at (cC _ (Mds.to ha (by repeat (first | with_reducible exact Below.refl _ _ | with_reducible assumption | refine bgw ?_ (by first | (simp; done) | (simp; omega) | omega) _ | refine Below.setCell ?_ (by first | exact Nat.le_of_not_lt (by assumption) | (simp; done) | (simp; omega) | omega) _ | refine Below.alloc ?_ (by first | (simp; done) | (simp; omega) | omega) _ | refine Below.drew ?_))))) ?_; rintro e w1 ⟨rfl, q2, rfl⟩))
  refine wp_named ?_
  intro W hW
  have kR0 : blk W w.heap.size #[.int .i64 0, .int .i64 0, .int .i64 0, .int .i64 0] 30 := by rw [hW]; exact (by repeat (first | with_reducible exact blk_new _ _ _ | ((with_reducible refine blk_at ?_); (simp; done)) | with_reducible apply blk_alloc | with_reducible apply blk_gw | with_reducible apply blk_drew))
  have kO0 : blk W (w.heap.size + 1 + q.os.size + q2.os.size) #[.int .i64 0, .int .i64 cx, .int .i64 cy, .int .i64 0] 30 := by rw [hW]; exact (by repeat (first | with_reducible exact blk_new _ _ _ | ((with_reducible refine blk_at ?_); (simp; done)) | with_reducible apply blk_alloc | with_reducible apply blk_gw | with_reducible apply blk_drew))
  have hB : w.heap.size < w.heap.size + 1 + q.os.size + q2.os.size := by omega
  have hbW : Below w.heap.size w W := by rw [hW]; exact (by repeat (first | with_reducible exact Below.refl _ _ | with_reducible assumption | refine bgw ?_ (by first | (simp; done) | (simp; omega) | omega) _ | refine Below.setCell ?_ (by first | exact Nat.le_of_not_lt (by assumption) | (simp; done) | (simp; omega) | omega) _ | refine Below.alloc ?_ (by first | (simp; done) | (simp; omega) | omega) _ | refine Below.drew ?_))
  clear hW cC cF
  generalize w.heap.size + 1 + q.os.size + q2.os.size = B at *
  go_wp2_with fail
  go_loopw [20] (fun i wr => ∃ k : Nat, k ≤ l.length ∧ i = .int .i64 (k : Int) ∧ blk wr w.heap.size #[.int .i64 0, .int .i64 0, .int .i64 0, .int .i64 0] 30 ∧ blk wr B #[.int .i64 (cmass (l.take k)), .int .i64 cx, .int .i64 cy, .int .i64 (cin cx cy (l.take k))] 30 ∧ Below w.heap.size w wr)
    (fun i _ => (l.length - intOf i).toNat)
  case atStart => exact ⟨0, by omega, rfl, by first | exact kR0 | exact blk_gw kR0, by rw [z0, z4]; first | exact kO0 | exact blk_gw kO0, by first | exact hbW | exact (by repeat (first | with_reducible exact Below.refl _ _ | with_reducible assumption | refine bgw ?_ (by first | (simp; done) | (simp; omega) | omega) _ | refine Below.setCell ?_ (by first | exact Nat.le_of_not_lt (by assumption) | (simp; done) | (simp; omega) | omega) _ | refine Below.alloc ?_ (by first | (simp; done) | (simp; omega) | omega) _ | refine Below.drew ?_))⟩
  case round =>
    obtain ⟨k, hk, rfl, kR, kO, hbw⟩ := hrel
    have hsz := hbw.size
    have hltO := blk_lt kO
    have okR := blk_older kR
    have ckR_0 : _ = some _ := blk_cell kR 0
    have ckR_1 : _ = some _ := blk_cell kR 1
    have ckR_2 : _ = some _ := blk_cell kR 2
    have ckR_3 : _ = some _ := blk_cell kR 3
    have fkR_0 := blk_free kR 0
    have fkR_1 := blk_free kR 1
    have fkR_2 := blk_free kR 2
    have fkR_3 := blk_free kR 3
    have okO := blk_older kO
    have ckO_0 : _ = some _ := blk_cell kO 0
    have ckO_1 : _ = some _ := blk_cell kO 1
    have ckO_2 : _ = some _ := blk_cell kO 2
    have ckO_3 : _ = some _ := blk_cell kO 3
    have fkO_0 := blk_free kO 0
    have fkO_1 := blk_free kO 1
    have fkO_2 := blk_free kO 2
    have fkO_3 := blk_free kO 3
    by_cases hlt : k < l.length
    · have j0 : (0 : Int) ≤ (k : Int) := by omega
      have j1 : (k : Int) < (l.length : Int) := by omega
      obtain ⟨b2, off2, hA2, hc2⟩ := mds_open ha (by omega)
      subst hA2
      obtain ⟨d0, d1, d2, d3⟩ := hc2 k hlt _ hbw
      have od := older_of_cell d0
      have g0 := f0 k hlt
      have g4 := f4 k hlt
      clear f0 f4 hc2 z0 z4 e0 e4
      generalize l[k].m = M at *
      generalize l[k].x = X at *
      generalize l[k].y = Y at *
      generalize l[k].i = I at *
      generalize cmass (l.take k) = S0 at *
      generalize cin cx cy (l.take k) = S4 at *
      go_upto_region 7 with fail
      refine wp_named ?_
      intro V hV
      have kP : blk V wr.heap.size #[.int .i64 M, .int .i64 X, .int .i64 Y, .int .i64 I] 30 := by rw [hV]; exact (by repeat (first | with_reducible exact blk_new _ _ _ | ((with_reducible refine blk_at ?_); (simp; done)) | with_reducible apply blk_alloc | with_reducible apply blk_gw | with_reducible apply blk_drew))
      have kR2 : blk V w.heap.size #[.int .i64 0, .int .i64 0, .int .i64 0, .int .i64 0] 30 := by rw [hV]; exact (by apply blk_of; (repeat (first | with_reducible exact kR | with_reducible apply blk_drew | with_reducible apply blk_gw | with_reducible apply blk_alloc | with_reducible apply blk_set | ((with_reducible apply blk_other); focus omega))); (first | rfl | simp))
      have kO2 : blk V B #[.int .i64 S0, .int .i64 cx, .int .i64 cy, .int .i64 S4] 30 := by rw [hV]; exact (by apply blk_of; (repeat (first | with_reducible exact kO | with_reducible apply blk_drew | with_reducible apply blk_gw | with_reducible apply blk_alloc | with_reducible apply blk_set | ((with_reducible apply blk_other); focus omega))); (first | rfl | simp))
      have hbV : Below w.heap.size w V := by rw [hV]; exact (by repeat (first | with_reducible exact Below.refl _ _ | with_reducible assumption | refine bgw ?_ (by first | (simp; done) | (simp; omega) | omega) _ | refine Below.setCell ?_ (by first | exact Nat.le_of_not_lt (by assumption) | (simp; done) | (simp; omega) | omega) _ | refine Below.alloc ?_ (by first | (simp; done) | (simp; omega) | omega) _ | refine Below.drew ?_))
      have hltP : wr.heap.size < V.heap.size := blk_lt kP
      clear hV kR kO okR okO ckR_0 ckR_1 ckR_2 ckR_3 fkR_0 fkR_1 fkR_2 fkR_3 ckO_0 ckO_1 ckO_2 ckO_3 fkO_0 fkO_1 fkO_2 fkO_3 d0 d1 d2 d3 od hbw
      generalize wr.heap.size = P at *
      clear wr
      have hszV := hbV.size
      have okP := blk_older kP
      have ckP_0 : _ = some _ := blk_cell kP 0
      have ckP_1 : _ = some _ := blk_cell kP 1
      have ckP_2 : _ = some _ := blk_cell kP 2
      have ckP_3 : _ = some _ := blk_cell kP 3
      have fkP_0 := blk_free kP 0
      have fkP_1 := blk_free kP 1
      have fkP_2 := blk_free kP 2
      have fkP_3 := blk_free kP 3
      have okR2 := blk_older kR2
      have ckR2_0 : _ = some _ := blk_cell kR2 0
      have ckR2_1 : _ = some _ := blk_cell kR2 1
      have ckR2_2 : _ = some _ := blk_cell kR2 2
      have ckR2_3 : _ = some _ := blk_cell kR2 3
      have fkR2_0 := blk_free kR2 0
      have fkR2_1 := blk_free kR2 1
      have fkR2_2 := blk_free kR2 2
      have fkR2_3 := blk_free kR2 3
      have okO2 := blk_older kO2
      have ckO2_0 : _ = some _ := blk_cell kO2 0
      have ckO2_1 : _ = some _ := blk_cell kO2 1
      have ckO2_2 : _ = some _ := blk_cell kO2 2
      have ckO2_3 : _ = some _ := blk_cell kO2 3
      have fkO2_0 := blk_free kO2 0
      have fkO2_1 := blk_free kO2 1
      have fkO2_2 := blk_free kO2 2
      have fkO2_3 := blk_free kO2 3
      go_upto_region 8 with (go_at_call 36; refine Calls.mono (gw_at (vsub_b _ _ _ _ _)) ?_; rintro e w1 ⟨rfl, q, rfl⟩)
      refine wp_named ?_
      intro U hU
      have kD : blk U (V.heap.size + q.os.size) #[.int .i64 (sub X cx), .int .i64 (sub Y cy)] 28 := by rw [hU]; exact (by repeat (first | with_reducible exact blk_new _ _ _ | ((with_reducible refine blk_at ?_); (simp; done)) | with_reducible apply blk_alloc | with_reducible apply blk_gw | with_reducible apply blk_drew))
      have kP2 : blk U P #[.int .i64 M, .int .i64 X, .int .i64 Y, .int .i64 I] 30 := by rw [hU]; exact (by apply blk_of; (repeat (first | with_reducible exact kP | with_reducible apply blk_drew | with_reducible apply blk_gw | with_reducible apply blk_alloc | with_reducible apply blk_set | ((with_reducible apply blk_other); focus omega))); (first | rfl | simp))
      have kR3 : blk U w.heap.size #[.int .i64 0, .int .i64 0, .int .i64 0, .int .i64 0] 30 := by rw [hU]; exact (by apply blk_of; (repeat (first | with_reducible exact kR2 | with_reducible apply blk_drew | with_reducible apply blk_gw | with_reducible apply blk_alloc | with_reducible apply blk_set | ((with_reducible apply blk_other); focus omega))); (first | rfl | simp))
      have kO3 : blk U B #[.int .i64 S0, .int .i64 cx, .int .i64 cy, .int .i64 S4] 30 := by rw [hU]; exact (by apply blk_of; (repeat (first | with_reducible exact kO2 | with_reducible apply blk_drew | with_reducible apply blk_gw | with_reducible apply blk_alloc | with_reducible apply blk_set | ((with_reducible apply blk_other); focus omega))); (first | rfl | simp))
      have hbU : Below w.heap.size w U := by rw [hU]; exact (by repeat (first | with_reducible exact Below.refl _ _ | with_reducible assumption | refine bgw ?_ (by first | (simp; done) | (simp; omega) | omega) _ | refine Below.setCell ?_ (by first | exact Nat.le_of_not_lt (by assumption) | (simp; done) | (simp; omega) | omega) _ | refine Below.alloc ?_ (by first | (simp; done) | (simp; omega) | omega) _ | refine Below.drew ?_))
      have hPD : P < V.heap.size + q.os.size := by omega
      clear hU kP kR2 kO2 okP okR2 okO2 ckP_0 ckP_1 ckP_2 ckP_3 fkP_0 fkP_1 fkP_2 fkP_3 ckR2_0 ckR2_1 ckR2_2 ckR2_3 fkR2_0 fkR2_1 fkR2_2 fkR2_3 ckO2_0 ckO2_1 ckO2_2 ckO2_3 fkO2_0 fkO2_1 fkO2_2 fkO2_3 hbV hszV hltP
      generalize V.heap.size + q.os.size = Dn at *
      clear V
      have hszU := hbU.size
      have okD := blk_older kD
      have ckD_0 : _ = some _ := blk_cell kD 0
      have ckD_1 : _ = some _ := blk_cell kD 1
      have fkD_0 := blk_free kD 0
      have fkD_1 := blk_free kD 1
      have okP2 := blk_older kP2
      have ckP2_0 : _ = some _ := blk_cell kP2 0
      have ckP2_1 : _ = some _ := blk_cell kP2 1
      have ckP2_2 : _ = some _ := blk_cell kP2 2
      have ckP2_3 : _ = some _ := blk_cell kP2 3
      have fkP2_0 := blk_free kP2 0
      have fkP2_1 := blk_free kP2 1
      have fkP2_2 := blk_free kP2 2
      have fkP2_3 := blk_free kP2 3
      have okR3 := blk_older kR3
      have ckR3_0 : _ = some _ := blk_cell kR3 0
      have ckR3_1 : _ = some _ := blk_cell kR3 1
      have ckR3_2 : _ = some _ := blk_cell kR3 2
      have ckR3_3 : _ = some _ := blk_cell kR3 3
      have fkR3_0 := blk_free kR3 0
      have fkR3_1 := blk_free kR3 1
      have fkR3_2 := blk_free kR3 2
      have fkR3_3 := blk_free kR3 3
      have okO3 := blk_older kO3
      have ckO3_0 : _ = some _ := blk_cell kO3 0
      have ckO3_1 : _ = some _ := blk_cell kO3 1
      have ckO3_2 : _ = some _ := blk_cell kO3 2
      have ckO3_3 : _ = some _ := blk_cell kO3 3
      have fkO3_0 := blk_free kO3 0
      have fkO3_1 := blk_free kO3 1
      have fkO3_2 := blk_free kO3 2
      have fkO3_3 := blk_free kO3 3
      go_upto_region 9 with (go_at_call 37; refine Calls.mono (gw_at (add_b _ _ _)) ?_; rintro e w1 ⟨rfl, q, rfl⟩)
      refine wp_named ?_
      intro T hT
      have kD2 : blk T Dn #[.int .i64 (sub X cx), .int .i64 (sub Y cy)] 28 := by rw [hT]; exact (by apply blk_of; (repeat (first | with_reducible exact kD | with_reducible apply blk_drew | with_reducible apply blk_gw | with_reducible apply blk_alloc | with_reducible apply blk_set | ((with_reducible apply blk_other); focus omega))); (first | rfl | simp))
      have kP3 : blk T P #[.int .i64 M, .int .i64 X, .int .i64 Y, .int .i64 I] 30 := by rw [hT]; exact (by apply blk_of; (repeat (first | with_reducible exact kP2 | with_reducible apply blk_drew | with_reducible apply blk_gw | with_reducible apply blk_alloc | with_reducible apply blk_set | ((with_reducible apply blk_other); focus omega))); (first | rfl | simp))
      have kR4 : blk T w.heap.size #[.int .i64 0, .int .i64 0, .int .i64 0, .int .i64 0] 30 := by rw [hT]; exact (by apply blk_of; (repeat (first | with_reducible exact kR3 | with_reducible apply blk_drew | with_reducible apply blk_gw | with_reducible apply blk_alloc | with_reducible apply blk_set | ((with_reducible apply blk_other); focus omega))); (first | rfl | simp))
      have kO4 : blk T B #[.int .i64 (add S0 M), .int .i64 cx, .int .i64 cy, .int .i64 S4] 30 := by rw [hT]; exact (by apply blk_of; (repeat (first | with_reducible exact kO3 | with_reducible apply blk_drew | with_reducible apply blk_gw | with_reducible apply blk_alloc | with_reducible apply blk_set | ((with_reducible apply blk_other); focus omega))); (first | rfl | simp))
      have hbT : Below w.heap.size w T := by rw [hT]; exact (by repeat (first | with_reducible exact Below.refl _ _ | with_reducible assumption | refine bgw ?_ (by first | (simp; done) | (simp; omega) | omega) _ | refine Below.setCell ?_ (by first | exact Nat.le_of_not_lt (by assumption) | (simp; done) | (simp; omega) | omega) _ | refine Below.alloc ?_ (by first | (simp; done) | (simp; omega) | omega) _ | refine Below.drew ?_))
      clear hT kD kP2 kR3 kO3 okD okP2 okR3 okO3 ckD_0 ckD_1 fkD_0 fkD_1 ckP2_0 ckP2_1 ckP2_2 ckP2_3 fkP2_0 fkP2_1 fkP2_2 fkP2_3 ckR3_0 ckR3_1 ckR3_2 ckR3_3 fkR3_0 fkR3_1 fkR3_2 fkR3_3 ckO3_0 ckO3_1 ckO3_2 ckO3_3 fkO3_0 fkO3_1 fkO3_2 fkO3_3 hbU hszU
      have hszT := hbT.size
      have okD2 := blk_older kD2
      have ckD2_0 : _ = some _ := blk_cell kD2 0
      have ckD2_1 : _ = some _ := blk_cell kD2 1
      have fkD2_0 := blk_free kD2 0
      have fkD2_1 := blk_free kD2 1
      have okP3 := blk_older kP3
      have ckP3_0 : _ = some _ := blk_cell kP3 0
      have ckP3_1 : _ = some _ := blk_cell kP3 1
      have ckP3_2 : _ = some _ := blk_cell kP3 2
      have ckP3_3 : _ = some _ := blk_cell kP3 3
      have fkP3_0 := blk_free kP3 0
      have fkP3_1 := blk_free kP3 1
      have fkP3_2 := blk_free kP3 2
      have fkP3_3 := blk_free kP3 3
      have okR4 := blk_older kR4
      have ckR4_0 : _ = some _ := blk_cell kR4 0
      have ckR4_1 : _ = some _ := blk_cell kR4 1
      have ckR4_2 : _ = some _ := blk_cell kR4 2
      have ckR4_3 : _ = some _ := blk_cell kR4 3
      have fkR4_0 := blk_free kR4 0
      have fkR4_1 := blk_free kR4 1
      have fkR4_2 := blk_free kR4 2
      have fkR4_3 := blk_free kR4 3
      have okO4 := blk_older kO4
      have ckO4_0 : _ = some _ := blk_cell kO4 0
      have ckO4_1 : _ = some _ := blk_cell kO4 1
      have ckO4_2 : _ = some _ := blk_cell kO4 2
      have ckO4_3 : _ = some _ := blk_cell kO4 3
      have fkO4_0 := blk_free kO4 0
      have fkO4_1 := blk_free kO4 1
      have fkO4_2 := blk_free kO4 2
      have fkO4_3 := blk_free kO4 3
      go_upto_region 10 with (go_at_call 37; refine Calls.mono (gw_at (add_b _ _ _)) ?_; rintro e w1 ⟨rfl, q, rfl⟩)
      refine wp_named ?_
      intro Y9 hY9
      have kD3 : blk Y9 Dn #[.int .i64 (sub X cx), .int .i64 (sub Y cy)] 28 := by rw [hY9]; exact (by apply blk_of; (repeat (first | with_reducible exact kD2 | with_reducible apply blk_drew | with_reducible apply blk_gw | with_reducible apply blk_alloc | with_reducible apply blk_set | ((with_reducible apply blk_other); focus omega))); (first | rfl | simp))
      have kP4 : blk Y9 P #[.int .i64 M, .int .i64 X, .int .i64 Y, .int .i64 I] 30 := by rw [hY9]; exact (by apply blk_of; (repeat (first | with_reducible exact kP3 | with_reducible apply blk_drew | with_reducible apply blk_gw | with_reducible apply blk_alloc | with_reducible apply blk_set | ((with_reducible apply blk_other); focus omega))); (first | rfl | simp))
      have kR5 : blk Y9 w.heap.size #[.int .i64 0, .int .i64 0, .int .i64 0, .int .i64 0] 30 := by rw [hY9]; exact (by apply blk_of; (repeat (first | with_reducible exact kR4 | with_reducible apply blk_drew | with_reducible apply blk_gw | with_reducible apply blk_alloc | with_reducible apply blk_set | ((with_reducible apply blk_other); focus omega))); (first | rfl | simp))
      have kO5 : blk Y9 B #[.int .i64 (add S0 M), .int .i64 cx, .int .i64 cy, .int .i64 (add S4 I)] 30 := by rw [hY9]; exact (by apply blk_of; (repeat (first | with_reducible exact kO4 | with_reducible apply blk_drew | with_reducible apply blk_gw | with_reducible apply blk_alloc | with_reducible apply blk_set | ((with_reducible apply blk_other); focus omega))); (first | rfl | simp))
      have hbY : Below w.heap.size w Y9 := by rw [hY9]; exact (by repeat (first | with_reducible exact Below.refl _ _ | with_reducible assumption | refine bgw ?_ (by first | (simp; done) | (simp; omega) | omega) _ | refine Below.setCell ?_ (by first | exact Nat.le_of_not_lt (by assumption) | (simp; done) | (simp; omega) | omega) _ | refine Below.alloc ?_ (by first | (simp; done) | (simp; omega) | omega) _ | refine Below.drew ?_))
      clear hY9 kD2 kP3 kR4 kO4 okD2 okP3 okR4 okO4 ckD2_0 ckD2_1 fkD2_0 fkD2_1 ckP3_0 ckP3_1 ckP3_2 ckP3_3 fkP3_0 fkP3_1 fkP3_2 fkP3_3 ckR4_0 ckR4_1 ckR4_2 ckR4_3 fkR4_0 fkR4_1 fkR4_2 fkR4_3 ckO4_0 ckO4_1 ckO4_2 ckO4_3 fkO4_0 fkO4_1 fkO4_2 fkO4_3 hbT hszT
      have hszY := hbY.size
      have okD3 := blk_older kD3
      have ckD3_0 : _ = some _ := blk_cell kD3 0
      have ckD3_1 : _ = some _ := blk_cell kD3 1
      have fkD3_0 := blk_free kD3 0
      have fkD3_1 := blk_free kD3 1
      have okP4 := blk_older kP4
      have ckP4_0 : _ = some _ := blk_cell kP4 0
      have ckP4_1 : _ = some _ := blk_cell kP4 1
      have ckP4_2 : _ = some _ := blk_cell kP4 2
      have ckP4_3 : _ = some _ := blk_cell kP4 3
      have fkP4_0 := blk_free kP4 0
      have fkP4_1 := blk_free kP4 1
      have fkP4_2 := blk_free kP4 2
      have fkP4_3 := blk_free kP4 3
      have okR5 := blk_older kR5
      have ckR5_0 : _ = some _ := blk_cell kR5 0
      have ckR5_1 : _ = some _ := blk_cell kR5 1
      have ckR5_2 : _ = some _ := blk_cell kR5 2
      have ckR5_3 : _ = some _ := blk_cell kR5 3
      have fkR5_0 := blk_free kR5 0
      have fkR5_1 := blk_free kR5 1
      have fkR5_2 := blk_free kR5 2
      have fkR5_3 := blk_free kR5 3
      have okO5 := blk_older kO5
      have ckO5_0 : _ = some _ := blk_cell kO5 0
      have ckO5_1 : _ = some _ := blk_cell kO5 1
      have ckO5_2 : _ = some _ := blk_cell kO5 2
      have ckO5_3 : _ = some _ := blk_cell kO5 3
      have fkO5_0 := blk_free kO5 0
      have fkO5_1 := blk_free kO5 1
      have fkO5_2 := blk_free kO5 2
      have fkO5_3 := blk_free kO5 3
      refine wp_region_gw_tail 10 (by kernel_rfl) (by kernel_rfl) ?_
      simp only [List.take_succ_cons, List.take_zero, List.drop_succ_cons, List.drop_zero]
      repeat (go_big_quiet_step ((first | (go_at_call 36; exact gw_call (vsub_b _ _ _ _ _)) | (go_at_call 37; exact gw_call (add_b _ _ _)) | (go_at_call 39; exact gw_call (dot_b _ _ _ _ _)) | (go_at_call 38; exact gw_call (mul_b _ _ _)))))
      refine wpQuiet_nil ?_
      intro w1 hw1
      obtain ⟨q, rfl⟩ := hw1
      go_wp2_with fail
      exact ⟨⟨k + 1, by omega, by go_num, (by apply blk_of; (repeat (first | with_reducible exact kR5 | with_reducible apply blk_drew | with_reducible apply blk_gw | with_reducible apply blk_alloc | with_reducible apply blk_set | ((with_reducible apply blk_other); focus omega))); (first | rfl | simp)), by rw [g0.out, g4.out]; exact (by apply blk_of; (repeat (first | with_reducible exact kO5 | with_reducible apply blk_drew | with_reducible apply blk_gw | with_reducible apply blk_alloc | with_reducible apply blk_set | ((with_reducible apply blk_other); focus omega))); (first | rfl | simp)), (by repeat (first | with_reducible exact Below.refl _ _ | with_reducible assumption | refine bgw ?_ (by first | (simp; done) | (simp; omega) | omega) _ | refine Below.setCell ?_ (by first | exact Nat.le_of_not_lt (by assumption) | (simp; done) | (simp; omega) | omega) _ | refine Below.alloc ?_ (by first | (simp; done) | (simp; omega) | omega) _ | refine Below.drew ?_))⟩, by (try go_num); simp [intOf]; (try omega)⟩
    · obtain rfl : k = l.length := by omega
      have j1 : ¬ (l.length : Int) < (l.length : Int) := by omega
      rw [e0, e4] at kO
      rw [e0] at ckO_0
      rw [e4] at ckO_3
      clear f0 f4 z0 z4 e0 e4
      go_wp2_with fail
      refine post_named ?_
      intro Z hZ
      have kZ : blk Z w.heap.size #[.int .i64 (cmass l), .int .i64 cx, .int .i64 cy, .int .i64 (cin cx cy l)] 30 := by rw [hZ]; exact (by apply blk_of; (repeat (first | with_reducible exact kR | with_reducible apply blk_drew | with_reducible apply blk_gw | with_reducible apply blk_alloc | with_reducible apply blk_set | ((with_reducible apply blk_other); focus omega))); (first | rfl | simp))
      have hbZ : Below w.heap.size w Z := by rw [hZ]; exact (by repeat (first | with_reducible exact Below.refl _ _ | with_reducible assumption | refine bgw ?_ (by first | (simp; done) | (simp; omega) | omega) _ | refine Below.setCell ?_ (by first | exact Nat.le_of_not_lt (by assumption) | (simp; done) | (simp; omega) | omega) _ | refine Below.alloc ?_ (by first | (simp; done) | (simp; omega) | omega) _ | refine Below.drew ?_))
      clear hZ
      have okZ := blk_older kZ
      have ckZ_0 : _ = some _ := blk_cell kZ 0
      have ckZ_1 : _ = some _ := blk_cell kZ 1
      have ckZ_2 : _ = some _ := blk_cell kZ 2
      have ckZ_3 : _ = some _ := blk_cell kZ 3
      have fkZ_0 := blk_free kZ 0
      have fkZ_1 := blk_free kZ 1
      have fkZ_2 := blk_free kZ 2
      have fkZ_3 := blk_free kZ 3
      exact bodyPost_ret (v := .agg #[.int .i64 (cmass l), .int .i64 cx, .int .i64 cy, .int .i64 (cin cx cy l)]) (by simp [results, Try.results12, go_sem, ckZ_0, ckZ_1, ckZ_2, ckZ_3]) rfl ⟨rfl, hbZ⟩

end Go.Proofs.Ytelmmjejgolefaa
