/- Laws of chapter 13: MassDataDensity, MassDataLowerBound, MassDataOfFixtures. -/
import Derived.Test.YtelmmjejgolefaaFixOL
set_option linter.unusedVariables false
namespace Go.Proofs.Ytelmmjejgolefaa
open Go.RowKit Fx

set_option maxHeartbeats 4000000 in
theorem walk_MassDataDensity (K R : Int) (A : Option Addr) (cap : Nat) (ps : List (Int × Int)) (a b : Int) (w : World) (hp : Pts w A ps) (hl : ps.length ≤ cap) (hc : cap ≤ maxLen) : Calls Try.prog 7 #[.agg #[.int .i64 K, .int .i64 R, .slice A ps.length cap], .int .i64 a, .int .i64 b] w fun e w' => e = .returned (.bool true) ∧ Below w.heap.size w w' := by
  have e0 := example13_b
  by_cases n1 : (20 : Int) < (ps.length : Int)
  focus
    go_enter Try.func7, Try.ntmps7
    go_wp2_with (go_at_call 9; refine Calls.mono (gw_at (e0 _)) ?_; rintro e w1 ⟨rfl, q, rfl⟩)
    go_ret
    exact ⟨rfl, (by repeat (first | with_reducible exact Below.refl _ _ | with_reducible assumption | refine bgw ?_ (by first | (simp; done) | (simp; omega) | omega) _ | refine Below.setCell ?_ (by first | exact Nat.le_of_not_lt (by assumption) | (simp; done) | (simp; omega) | omega) _ | refine Below.alloc ?_ (by first | (simp; done) | (simp; omega) | omega) _ | refine Below.drew ?_))⟩
  by_cases n2 : a < 0
  focus
    go_enter Try.func7, Try.ntmps7
    go_wp2_with (go_at_call 9; refine Calls.mono (gw_at (e0 _)) ?_; rintro e w1 ⟨rfl, q, rfl⟩)
    go_ret
    exact ⟨rfl, (by repeat (first | with_reducible exact Below.refl _ _ | with_reducible assumption | refine bgw ?_ (by first | (simp; done) | (simp; omega) | omega) _ | refine Below.setCell ?_ (by first | exact Nat.le_of_not_lt (by assumption) | (simp; done) | (simp; omega) | omega) _ | refine Below.alloc ?_ (by first | (simp; done) | (simp; omega) | omega) _ | refine Below.drew ?_))⟩
  by_cases n3 : b < a
  focus
    go_enter Try.func7, Try.ntmps7
    go_wp2_with (go_at_call 9; refine Calls.mono (gw_at (e0 _)) ?_; rintro e w1 ⟨rfl, q, rfl⟩)
    go_ret
    exact ⟨rfl, (by repeat (first | with_reducible exact Below.refl _ _ | with_reducible assumption | refine bgw ?_ (by first | (simp; done) | (simp; omega) | omega) _ | refine Below.setCell ?_ (by first | exact Nat.le_of_not_lt (by assumption) | (simp; done) | (simp; omega) | omega) _ | refine Below.alloc ?_ (by first | (simp; done) | (simp; omega) | omega) _ | refine Below.drew ?_))⟩
  by_cases n4 : 262144 < b
  focus
    go_enter Try.func7, Try.ntmps7
    go_wp2_with (go_at_call 9; refine Calls.mono (gw_at (e0 _)) ?_; rintro e w1 ⟨rfl, q, rfl⟩)
    go_ret
    exact ⟨rfl, (by repeat (first | with_reducible exact Below.refl _ _ | with_reducible assumption | refine bgw ?_ (by first | (simp; done) | (simp; omega) | omega) _ | refine Below.setCell ?_ (by first | exact Nat.le_of_not_lt (by assumption) | (simp; done) | (simp; omega) | omega) _ | refine Below.alloc ?_ (by first | (simp; done) | (simp; omega) | omega) _ | refine Below.drew ?_))⟩
  have cA := fun w' h => yofs_b K R A cap ps a (by omega) w' h
  have cB := fun w' h => yofs_b K R A cap ps b (by omega) w' h
  obtain ⟨m1, m2, m3, m4, m5, m6⟩ := ofS_mono K R ps (show 0 ≤ a by omega) (show a ≤ b by omega) (show b ≤ 262144 by omega)
  generalize ofS K R ps a = P at *
  generalize ofS K R ps b = Q at *
  obtain ⟨p1, p2, p3, p4⟩ := P
  obtain ⟨q1, q2, q3, q4⟩ := Q
  dsimp only at m1 m2 m3 m4 m5 m6 cA cB
  subst m5 m6
  have hm : Hid (0 ≤ p1 ∧ p1 ≤ q1 ∧ 0 ≤ p4 ∧ p4 ≤ q4) := ⟨m1, m2, m3, m4⟩
  clear m1 m2 m3 m4
  go_enter Try.func7, Try.ntmps7
  go_upto_region 3 with fail
  refine wp_named ?_
  intro W hW
  have kS : blk W w.heap.size #[.int .i64 K, .int .i64 R, .slice A ps.length cap] 25 := by rw [hW]; exact (by repeat (first | with_reducible exact blk_new _ _ _ | ((with_reducible refine blk_at ?_); (simp; done)) | with_reducible apply blk_alloc | with_reducible apply blk_gw | with_reducible apply blk_drew))
  have hbW : Below w.heap.size w W := by rw [hW]; exact (by repeat (first | with_reducible exact Below.refl _ _ | with_reducible assumption | refine bgw ?_ (by first | (simp; done) | (simp; omega) | omega) _ | refine Below.setCell ?_ (by first | exact Nat.le_of_not_lt (by assumption) | (simp; done) | (simp; omega) | omega) _ | refine Below.alloc ?_ (by first | (simp; done) | (simp; omega) | omega) _ | refine Below.drew ?_))
  clear hW
  have hszW := hbW.size
  have hP : Pts W A ps := Pts.to hp hbW
  have okS := blk_older kS
  have ckS_0 : _ = some _ := blk_cell kS 0
  have ckS_1 : _ = some _ := blk_cell kS 1
  have ckS_2 : _ = some _ := blk_cell kS 2
  have fkS_0 := blk_free kS 0
  have fkS_1 := blk_free kS 1
  have fkS_2 := blk_free kS 2
  clear n1 n2 n3 n4
  apply wp_box2 8 65 6 7 7 8 #[.int .i64 0, .int .i64 0, .int .i64 0, .int .i64 0] #[.int .i64 0, .int .i64 0, .int .i64 0, .int .i64 0] 30 30 (by kernel_rfl) (by rfl) (by kernel_rfl) (by rfl) (by intro o ho a w; simp at ho; subst ho; simp [go_sem, ptr]) (by intro o ho a w; simp at ho; subst ho; simp [go_sem, ptr])
  · intro p0
    simp only [heads, ghost, List.take_succ_cons, List.take_zero, List.map_cons, List.map_nil]
    repeat (go_big_quiet_step ((first | (go_at_call 10; with_reducible_and_instances exact gw_call (cA _ (Pts.to hP (by repeat (first | with_reducible exact Below.refl _ _ | with_reducible assumption | refine bgw ?_ (by first | (simp; done) | (simp; omega) | omega) _ | refine Below.setCell ?_ (by first | exact Nat.le_of_not_lt (by assumption) | (simp; done) | (simp; omega) | omega) _ | refine Below.alloc ?_ (by first | (simp; done) | (simp; omega) | omega) _ | refine Below.drew ?_))))) | (go_at_call 10; with_reducible_and_instances exact gw_call (cB _ (Pts.to hP (by repeat (first | with_reducible exact Below.refl _ _ | with_reducible assumption | refine bgw ?_ (by first | (simp; done) | (simp; omega) | omega) _ | refine Below.setCell ?_ (by first | exact Nat.le_of_not_lt (by assumption) | (simp; done) | (simp; omega) | omega) _ | refine Below.alloc ?_ (by first | (simp; done) | (simp; omega) | omega) _ | refine Below.drew ?_))))))))
    exact wpQuiet_nil rfl
  · intro R bB1 bB2 p0 nB1 nB2 gB1 gB2 neB01 neB01' kB1 kB2 hK
    replace hK := (show Hid _ from hK)
    simp only [List.drop_succ_cons, List.drop_zero, Act.put, ptr, List.setIfInBounds_toArray, List.set_cons_succ, List.set_cons_zero]
    have cB1_0 : _ = some _ := blk_cell kB1 0
    have cB1_1 : _ = some _ := blk_cell kB1 1
    have cB1_2 : _ = some _ := blk_cell kB1 2
    have cB1_3 : _ = some _ := blk_cell kB1 3
    have cB2_0 : _ = some _ := blk_cell kB2 0
    have cB2_1 : _ = some _ := blk_cell kB2 1
    have cB2_2 : _ = some _ := blk_cell kB2 2
    have cB2_3 : _ = some _ := blk_cell kB2 3
    have fB1_0 := blk_free kB1 0
    have fB1_1 := blk_free kB1 1
    have fB1_2 := blk_free kB1 2
    have fB1_3 := blk_free kB1 3
    have fB2_0 := blk_free kB2 0
    have fB2_1 := blk_free kB2 1
    have fB2_2 := blk_free kB2 2
    have fB2_3 := blk_free kB2 3
    have oB1 := blk_older kB1
    have oB2 := blk_older kB2
    go_wp2_with fail
    refine box_end2 gB1 gB2 hK.out ?_ ?_ ?_
    · exact (by repeat (first | with_reducible exact Below.refl _ _ | with_reducible assumption | with_reducible exact below_gw _ _ | with_reducible refine Below.setCell ?_ (Nat.le_of_not_lt (by assumption)) _))
    · exact (by repeat' (first | with_reducible assumption | with_reducible apply blk_gw | with_reducible apply blk_alloc | with_reducible apply blk_set | ((with_reducible apply blk_other); focus (first | omega | assumption))))
    · exact (by repeat' (first | with_reducible assumption | with_reducible apply blk_gw | with_reducible apply blk_alloc | with_reducible apply blk_set | ((with_reducible apply blk_other); focus (first | omega | assumption))))
  intro bB1 bB2 p0 nB1 nB2 neB01 neB01' kB1 kB2
  have cB1_0 : _ = some _ := blk_cell kB1 0
  have cB1_1 : _ = some _ := blk_cell kB1 1
  have cB1_2 : _ = some _ := blk_cell kB1 2
  have cB1_3 : _ = some _ := blk_cell kB1 3
  have cB2_0 : _ = some _ := blk_cell kB2 0
  have cB2_1 : _ = some _ := blk_cell kB2 1
  have cB2_2 : _ = some _ := blk_cell kB2 2
  have cB2_3 : _ = some _ := blk_cell kB2 3
  have fB1_0 := blk_free kB1 0
  have fB1_1 := blk_free kB1 1
  have fB1_2 := blk_free kB1 2
  have fB1_3 := blk_free kB1 3
  have fB2_0 := blk_free kB2 0
  have fB2_1 := blk_free kB2 1
  have fB2_2 := blk_free kB2 2
  have fB2_3 := blk_free kB2 3
  have oB1 := blk_older kB1
  have oB2 := blk_older kB2
  obtain ⟨m1, m2, m3, m4⟩ := hm.out
  clear hm cA cB
  go_wp2_with (go_at_call 9; refine Calls.mono (gw_at (e0 _)) ?_; rintro e w1 ⟨rfl, q, rfl⟩)
  go_ret
  exact ⟨rfl, (by repeat (first | with_reducible exact Below.refl _ _ | with_reducible assumption | refine bgw ?_ (by first | (simp; done) | (simp; omega) | omega) _ | refine Below.setCell ?_ (by first | exact Nat.le_of_not_lt (by assumption) | (simp; done) | (simp; omega) | omega) _ | refine Below.alloc ?_ (by first | (simp; done) | (simp; omega) | omega) _ | refine Below.drew ?_))⟩

theorem one_mds {w : World} {b : Nat} {t : TypeId} {p : Md} (h : blk w b #[.int .i64 p.m, .int .i64 p.x, .int .i64 p.y, .int .i64 p.i] t) : Mds w (some ⟨b, 0, none⟩) [p] :=
  .inr ⟨b, 0, rfl, fun i hi => ⟨mdc p, rfl, fun j hj => by
    have : i = 0 := by simpa using hi
    subst this
    rw [Nat.zero_mul, Nat.zero_add, blk_cell h]
    match j, hj with
    | 0, _ => rfl
    | 1, _ => rfl
    | 2, _ => rfl
    | 3, _ => rfl, by
    have : i = 0 := by simpa using hi
    subst this; rfl⟩⟩

set_option maxHeartbeats 8000000 in
theorem walk_MassDataLowerBound (A : Option Addr) (cap : Nat) (l : List Md) (M X Y I : Int) (w : World) (ha : Mds w A l) (hl : l.length ≤ cap) (hc : cap ≤ maxLen) : Calls Try.prog 8 #[.slice A l.length cap, .agg #[.int .i64 M, .int .i64 X, .int .i64 Y, .int .i64 I]] w fun e w' => e = .returned (.bool true) ∧ Below w.heap.size w w' := by
  have e0 := example13_b
  by_cases n1 : (8 : Int) < (l.length : Int)
  focus
    go_enter Try.func8, Try.ntmps8
    go_wp2_with (go_at_call 9; refine Calls.mono (gw_at (e0 _)) ?_; rintro e w1 ⟨rfl, q, rfl⟩)
    go_ret
    exact ⟨rfl, (by repeat (first | with_reducible exact Below.refl _ _ | with_reducible assumption | refine bgw ?_ (by first | (simp; done) | (simp; omega) | omega) _ | refine Below.setCell ?_ (by first | exact Nat.le_of_not_lt (by assumption) | (simp; done) | (simp; omega) | omega) _ | refine Below.alloc ?_ (by first | (simp; done) | (simp; omega) | omega) _ | refine Below.drew ?_))⟩
  have cO := fun w' h => ycomb_b A cap l (by omega) w' h
  have hge : Hid ((∀ p ∈ l, 0 ≤ p.m ∧ p.m ≤ 536870911) → ∀ p ∈ l, p.m ≤ (comb l).m) := fun h => comb_ge (by omega) h
  have c1 : ∀ b w', Mds w' (some ⟨b, 0, none⟩) [⟨M, X, Y, I⟩] → Calls Try.prog 12 #[.slice (some ⟨b, 0, none⟩) 1 1] w' fun e w'' => e = .returned (.agg #[.int .i64 (comb [⟨M, X, Y, I⟩]).m, .int .i64 (comb [⟨M, X, Y, I⟩]).x, .int .i64 (comb [⟨M, X, Y, I⟩]).y, .int .i64 (comb [⟨M, X, Y, I⟩]).i]) ∧ Below w'.heap.size w' w'' := fun b w' h => ycomb_b _ 1 [⟨M, X, Y, I⟩] (by simp) w' h
  have c0 : ∀ w', Calls Try.prog 12 #[.slice none 0 0] w' fun e w'' => e = .returned (.agg #[.int .i64 0, .int .i64 0, .int .i64 0, .int .i64 0]) ∧ Below w'.heap.size w' w'' := fun w' => by
    have := ycomb_b none 0 [] (by simp) w' (.inl rfl); rw [comb_nil] at this; exact this
  have hone : Hid (0 ≤ M → M ≤ 536870911 → (comb [⟨M, X, Y, I⟩]).m = M) := fun h1 h2 => comb_one (p := ⟨M, X, Y, I⟩) h1 h2
  generalize comb [⟨M, X, Y, I⟩] = P at *
  obtain ⟨H, hH⟩ : ∃ H, comb l = H := ⟨_, rfl⟩
  rw [hH] at cO hge
  clear hH
  go_enter Try.func8, Try.ntmps8
  go_wp2_with (go_at_call 12; refine Calls.mono (gw_at (cO _ (Mds.to ha (by repeat (first | with_reducible exact Below.refl _ _ | with_reducible assumption | refine bgw ?_ (by first | (simp; done) | (simp; omega) | omega) _ | refine Below.setCell ?_ (by first | exact Nat.le_of_not_lt (by assumption) | (simp; done) | (simp; omega) | omega) _ | refine Below.alloc ?_ (by first | (simp; done) | (simp; omega) | omega) _ | refine Below.drew ?_))))) ?_; rintro e w1 ⟨rfl, q, rfl⟩)
  refine wp_named ?_
  intro W hW
  have k1 : blk W w.heap.size #[.int .i64 M, .int .i64 X, .int .i64 Y, .int .i64 I] 30 := by rw [hW]; exact (by repeat (first | with_reducible exact blk_new _ _ _ | ((with_reducible refine blk_at ?_); (simp; done)) | with_reducible apply blk_alloc | with_reducible apply blk_gw | with_reducible apply blk_drew))
  have k2 : blk W (w.heap.size + 1 + q.os.size) #[.int .i64 H.m, .int .i64 H.x, .int .i64 H.y, .int .i64 H.i] 30 := by rw [hW]; exact (by repeat (first | with_reducible exact blk_new _ _ _ | ((with_reducible refine blk_at ?_); (simp; done)) | with_reducible apply blk_alloc | with_reducible apply blk_gw | with_reducible apply blk_drew))
  have hbW : Below w.heap.size w W := by rw [hW]; exact (by repeat (first | with_reducible exact Below.refl _ _ | with_reducible assumption | refine bgw ?_ (by first | (simp; done) | (simp; omega) | omega) _ | refine Below.setCell ?_ (by first | exact Nat.le_of_not_lt (by assumption) | (simp; done) | (simp; omega) | omega) _ | refine Below.alloc ?_ (by first | (simp; done) | (simp; omega) | omega) _ | refine Below.drew ?_))
  clear hW
  generalize w.heap.size + 1 + q.os.size = C at *
  have hszW := hbW.size
  have hL : Mds W A l := Mds.to ha hbW
  have ok1 := blk_older k1
  have ck1_0 : _ = some _ := blk_cell k1 0
  have ck1_1 : _ = some _ := blk_cell k1 1
  have ck1_2 : _ = some _ := blk_cell k1 2
  have ck1_3 : _ = some _ := blk_cell k1 3
  have fk1_0 := blk_free k1 0
  have fk1_1 := blk_free k1 1
  have fk1_2 := blk_free k1 2
  have fk1_3 := blk_free k1 3
  have ok2 := blk_older k2
  have ck2_0 : _ = some _ := blk_cell k2 0
  have ck2_1 : _ = some _ := blk_cell k2 1
  have ck2_2 : _ = some _ := blk_cell k2 2
  have ck2_3 : _ = some _ := blk_cell k2 3
  have fk2_0 := blk_free k2 0
  have fk2_1 := blk_free k2 1
  have fk2_2 := blk_free k2 2
  have fk2_3 := blk_free k2 3
  clear cO
  go_loopw [6] (fun i wr => ∃ k : Nat, k ≤ l.length ∧ i = .int .i64 (k : Int) ∧ (∀ j (h : j < l.length), j < k → Hid (0 ≤ l[j].m ∧ l[j].m ≤ 536870911)) ∧ ∃ p, wr = gw W p)
    (fun i _ => (l.length - intOf i).toNat)
  case atStart => exact ⟨0, by omega, rfl, by omega, ⟨⟨W.drawn, #[]⟩, (gw_zero W).symm⟩⟩
  case round =>
    obtain ⟨k, hk, rfl, hall, p, rfl⟩ := hrel
    by_cases hlt : k < l.length
    · have j0 : (0 : Int) ≤ (k : Int) := by omega
      have j1 : (k : Int) < (l.length : Int) := by omega
      obtain ⟨b2, off2, hA2, hc2⟩ := mds_open hL (by omega)
      subst hA2
      obtain ⟨d0, d1, d2, d3⟩ := hc2 k hlt (gw W p) (below_gw W p)
      have od := older_of_cell d0
      have hnx : Hid (0 ≤ l[k].m → l[k].m ≤ 536870911 → ∀ j (h : j < l.length), j < k + 1 → Hid (0 ≤ l[j].m ∧ l[j].m ≤ 536870911)) := fun g1 g2 j hj hjk => by
        rcases (by omega : j < k ∨ j = k) with h4 | rfl
        · exact hall j hj h4
        · exact ⟨g1, g2⟩
      clear hc2 hall hge
      generalize l[k].m = m at *
      generalize l[k].x = x at *
      generalize l[k].y = y at *
      generalize l[k].i = ii at *
      by_cases g1 : m < 0
      focus
        clear hnx
        go_wp2_with (go_at_call 9; refine Calls.mono (gw_at (e0 _)) ?_; rintro e w1 ⟨rfl, q, rfl⟩)
        go_ret
        exact ⟨rfl, Below.trans hbW (Below.mono (by repeat (first | with_reducible exact Below.refl _ _ | with_reducible assumption | refine bgw ?_ (by first | (simp; done) | (simp; omega) | omega) _ | refine Below.setCell ?_ (by first | exact Nat.le_of_not_lt (by assumption) | (simp; done) | (simp; omega) | omega) _ | refine Below.alloc ?_ (by first | (simp; done) | (simp; omega) | omega) _ | refine Below.drew ?_)) hszW)⟩
      by_cases g2 : 536870911 < m
      focus
        clear hnx
        go_wp2_with (go_at_call 9; refine Calls.mono (gw_at (e0 _)) ?_; rintro e w1 ⟨rfl, q, rfl⟩)
        go_ret
        exact ⟨rfl, Below.trans hbW (Below.mono (by repeat (first | with_reducible exact Below.refl _ _ | with_reducible assumption | refine bgw ?_ (by first | (simp; done) | (simp; omega) | omega) _ | refine Below.setCell ?_ (by first | exact Nat.le_of_not_lt (by assumption) | (simp; done) | (simp; omega) | omega) _ | refine Below.alloc ?_ (by first | (simp; done) | (simp; omega) | omega) _ | refine Below.drew ?_)) hszW)⟩
      have hg := hnx.out (by omega) (by omega)
      clear hnx
      go_wp2_with fail
      exact ⟨⟨k + 1, by omega, by go_num, hg, gw_of_below (by repeat (first | with_reducible exact Below.refl _ _ | with_reducible assumption | refine bgw ?_ (by first | (simp; done) | (simp; omega) | omega) _ | refine Below.setCell ?_ (by first | exact Nat.le_of_not_lt (by assumption) | (simp; done) | (simp; omega) | omega) _ | refine Below.alloc ?_ (by first | (simp; done) | (simp; omega) | omega) _ | refine Below.drew ?_))⟩, by (try go_num); simp [intOf]; (try omega)⟩
    · obtain rfl : k = l.length := by omega
      have j1 : ¬ (l.length : Int) < (l.length : Int) := by omega
      have hgm : Hid (∀ j (h : j < l.length), l[j].m ≤ H.m) := fun j hj => hge.out (fun q hq => by obtain ⟨i, hi, rfl⟩ := List.mem_iff_getElem.1 hq; exact (hall i hi hi).out) _ (List.getElem_mem hj)
      clear hall hge
      go_wp2_with fail
      go_loopw [7] (fun i wr => ∃ k : Nat, k ≤ l.length ∧ i = .int .i64 (k : Int) ∧ ∃ p, wr = gw W p)
        (fun i _ => (l.length - intOf i).toNat)
      case atStart => exact ⟨0, by omega, rfl, ⟨p, rfl⟩⟩
      case round =>
        obtain ⟨k, hk, rfl, p, rfl⟩ := hrel
        by_cases hlt : k < l.length
        · have j0 : (0 : Int) ≤ (k : Int) := by omega
          have j1 : (k : Int) < (l.length : Int) := by omega
          obtain ⟨b2, off2, hA2, hc2⟩ := mds_open hL (by omega)
          subst hA2
          obtain ⟨d0, d1, d2, d3⟩ := hc2 k hlt (gw W p) (below_gw W p)
          have od := older_of_cell d0
          have hm := hgm.out k hlt
          clear hc2 hgm
          generalize l[k].m = m at *
          generalize l[k].x = x at *
          generalize l[k].y = y at *
          generalize l[k].i = ii at *
          have hm1 : ¬ H.m < m := by omega
          have hm2 : decide (H.m < m) = false := decide_eq_false hm1
          clear hm
          go_wp2_with fail
          refine wp_region_gw (by kernel_rfl) (by kernel_rfl) ?_
          repeat (go_big_quiet_step ((first | (go_at_call 9; exact gw_call (example13_b _)))))
          refine wpQuiet_nil ?_
          intro w1 hw1
          obtain ⟨q, rfl⟩ := hw1
          go_wp2_with fail
          exact ⟨⟨k + 1, by omega, by go_num, gw_of_below (by repeat (first | with_reducible exact Below.refl _ _ | with_reducible assumption | refine bgw ?_ (by first | (simp; done) | (simp; omega) | omega) _ | refine Below.setCell ?_ (by first | exact Nat.le_of_not_lt (by assumption) | (simp; done) | (simp; omega) | omega) _ | refine Below.alloc ?_ (by first | (simp; done) | (simp; omega) | omega) _ | refine Below.drew ?_))⟩, by (try go_num); simp [intOf]; (try omega)⟩
        · obtain rfl : k = l.length := by omega
          have j1 : ¬ (l.length : Int) < (l.length : Int) := by omega
          clear hgm
          by_cases g1 : 0 ≤ M
          · by_cases g2 : M ≤ 536870911
            · have e1 := hone.out g1 g2
              have b1 : (P.m != M) = false := by rw [bne_eq_false_iff_eq]; exact e1
              clear hone e1
              go_wp2_with (first | (go_at_call 12; (with_reducible show Calls _ _ #[.slice none _ _] _ _); refine Calls.mono (gw_at (c0 _)) ?_; rintro e w1 ⟨rfl, q0, rfl⟩) | (go_at_call 12; (with_reducible show Calls _ _ #[.slice (some _) _ _] _ _); refine Calls.mono (gw_at (c1 _ _ (one_mds (p := ⟨M, X, Y, I⟩) (by repeat (first | with_reducible exact blk_new _ _ _ | ((with_reducible refine blk_at ?_); (simp; done)) | with_reducible apply blk_alloc | with_reducible apply blk_gw | with_reducible apply blk_drew))))) ?_; rintro e w1 ⟨rfl, q1, rfl⟩) | (go_at_call 9; refine Calls.mono (gw_at (e0 _)) ?_; rintro e w1 ⟨rfl, q2, rfl⟩))
              go_ret
              exact ⟨rfl, Below.trans hbW (Below.mono (by repeat (first | with_reducible exact Below.refl _ _ | with_reducible assumption | refine bgw ?_ (by first | (simp; done) | (simp; omega) | omega) _ | refine Below.setCell ?_ (by first | exact Nat.le_of_not_lt (by assumption) | (simp; done) | (simp; omega) | omega) _ | refine Below.alloc ?_ (by first | (simp; done) | (simp; omega) | omega) _ | refine Below.drew ?_)) hszW)⟩
            · clear hone
              go_wp2_with (first | (go_at_call 12; (with_reducible show Calls _ _ #[.slice none _ _] _ _); refine Calls.mono (gw_at (c0 _)) ?_; rintro e w1 ⟨rfl, q0, rfl⟩) | (go_at_call 12; (with_reducible show Calls _ _ #[.slice (some _) _ _] _ _); refine Calls.mono (gw_at (c1 _ _ (one_mds (p := ⟨M, X, Y, I⟩) (by repeat (first | with_reducible exact blk_new _ _ _ | ((with_reducible refine blk_at ?_); (simp; done)) | with_reducible apply blk_alloc | with_reducible apply blk_gw | with_reducible apply blk_drew))))) ?_; rintro e w1 ⟨rfl, q1, rfl⟩) | (go_at_call 9; refine Calls.mono (gw_at (e0 _)) ?_; rintro e w1 ⟨rfl, q2, rfl⟩))
              go_ret
              exact ⟨rfl, Below.trans hbW (Below.mono (by repeat (first | with_reducible exact Below.refl _ _ | with_reducible assumption | refine bgw ?_ (by first | (simp; done) | (simp; omega) | omega) _ | refine Below.setCell ?_ (by first | exact Nat.le_of_not_lt (by assumption) | (simp; done) | (simp; omega) | omega) _ | refine Below.alloc ?_ (by first | (simp; done) | (simp; omega) | omega) _ | refine Below.drew ?_)) hszW)⟩
          · clear hone
            go_wp2_with (first | (go_at_call 12; (with_reducible show Calls _ _ #[.slice none _ _] _ _); refine Calls.mono (gw_at (c0 _)) ?_; rintro e w1 ⟨rfl, q0, rfl⟩) | (go_at_call 12; (with_reducible show Calls _ _ #[.slice (some _) _ _] _ _); refine Calls.mono (gw_at (c1 _ _ (one_mds (p := ⟨M, X, Y, I⟩) (by repeat (first | with_reducible exact blk_new _ _ _ | ((with_reducible refine blk_at ?_); (simp; done)) | with_reducible apply blk_alloc | with_reducible apply blk_gw | with_reducible apply blk_drew))))) ?_; rintro e w1 ⟨rfl, q1, rfl⟩) | (go_at_call 9; refine Calls.mono (gw_at (e0 _)) ?_; rintro e w1 ⟨rfl, q2, rfl⟩))
            go_ret
            exact ⟨rfl, Below.trans hbW (Below.mono (by repeat (first | with_reducible exact Below.refl _ _ | with_reducible assumption | refine bgw ?_ (by first | (simp; done) | (simp; omega) | omega) _ | refine Below.setCell ?_ (by first | exact Nat.le_of_not_lt (by assumption) | (simp; done) | (simp; omega) | omega) _ | refine Below.alloc ?_ (by first | (simp; done) | (simp; omega) | omega) _ | refine Below.drew ?_)) hszW)⟩

end Go.Proofs.Ytelmmjejgolefaa
