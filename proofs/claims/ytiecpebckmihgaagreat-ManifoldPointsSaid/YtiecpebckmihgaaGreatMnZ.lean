/- Contracts of package manifold and of its reference: Equal, Clone, Flip. -/
import Derived.Test.YtiecpebckmihgaaGreatMnX
set_option linter.unusedVariables false
namespace Go.Proofs.YtiecpebckmihgaaGreat
open Go.RowKit Fx

theorem cnt_ext (a b : Cnt) : a = b ↔ (a.x = b.x ∧ a.y = b.y ∧ a.sep = b.sep ∧ a.id = b.id ∧ a.ni = b.ni ∧ a.ti = b.ti) := by
  cases a; cases b; simp
def eqM (nx ny : Int) (l : List Cnt) (nx' ny' : Int) (r : List Cnt) : Bool := decide (nx = nx' ∧ ny = ny' ∧ l = r)

set_option maxRecDepth 100000 in
set_option maxHeartbeats 16000000 in
theorem re16_b (nx ny : Int) (A : Option Addr) (ca : Nat) (l : List Cnt) (nx' ny' : Int) (B : Option Addr) (cb : Nat) (r : List Cnt) (hl : l.length ≤ 1000000) (hm : r.length ≤ 1000000) (w : World) (ha : Cnts w A l) (hb : Cnts w B r) : Calls Tryz.prog 11 #[.agg #[.int .i64 nx, .int .i64 ny, .slice A l.length ca], .agg #[.int .i64 nx', .int .i64 ny', .slice B r.length cb]] w fun e w' => e = .returned (.bool (eqM nx ny l nx' ny' r)) ∧ Below w.heap.size w w' := by
  obtain ⟨R, hR⟩ : ∃ R, eqM nx ny l nx' ny' r = R := ⟨_, rfl⟩
  rw [hR]
  have hR1 : Hid (R = true ↔ nx = nx' ∧ ny = ny' ∧ l = r) := by show _ ↔ _; rw [← hR]; unfold eqM; simp
  clear hR
  by_cases c1 : nx = nx'
  case neg =>
    obtain rfl : R = false := by rw [Bool.eq_false_iff]; intro e; exact c1 (hR1.out.1 e).1
    have e1 : (nx == nx') = false := by rw [beq_eq_false_iff_ne]; exact c1
    clear hR1 c1
    go_enter Tryz.func11, Tryz.ntmps11
    go_wp2_with fail
    go_ret
    exact ⟨rfl, (by repeat (first | with_reducible exact Below.refl _ _ | with_reducible assumption | refine bgw ?_ (by first | (simp; done) | (simp; omega) | omega) _ | refine Below.setCell ?_ (by first | exact Nat.le_of_not_lt (by assumption) | (simp; done) | (simp; omega) | omega) _ | refine Below.alloc ?_ (by first | (simp; done) | (simp; omega) | omega) _ | refine Below.drew ?_))⟩
  by_cases c2 : ny = ny'
  case neg =>
    subst c1
    obtain rfl : R = false := by rw [Bool.eq_false_iff]; intro e; exact c2 (hR1.out.1 e).2.1
    have e1 : (ny == ny') = false := by rw [beq_eq_false_iff_ne]; exact c2
    clear hR1 c2
    go_enter Tryz.func11, Tryz.ntmps11
    go_wp2_with fail
    go_ret
    exact ⟨rfl, (by repeat (first | with_reducible exact Below.refl _ _ | with_reducible assumption | refine bgw ?_ (by first | (simp; done) | (simp; omega) | omega) _ | refine Below.setCell ?_ (by first | exact Nat.le_of_not_lt (by assumption) | (simp; done) | (simp; omega) | omega) _ | refine Below.alloc ?_ (by first | (simp; done) | (simp; omega) | omega) _ | refine Below.drew ?_))⟩
  subst c1 c2
  by_cases hlen : l.length = r.length
  case neg =>
    obtain rfl : R = false := by rw [Bool.eq_false_iff]; intro e; exact hlen (by rw [(hR1.out.1 e).2.2])
    have b0 : ((l.length : Int) != (r.length : Int)) = true := by rw [bne_iff_ne]; omega
    clear hR1 hlen
    go_enter Tryz.func11, Tryz.ntmps11
    go_wp2_with fail
    go_ret
    exact ⟨rfl, (by repeat (first | with_reducible exact Below.refl _ _ | with_reducible assumption | refine bgw ?_ (by first | (simp; done) | (simp; omega) | omega) _ | refine Below.setCell ?_ (by first | exact Nat.le_of_not_lt (by assumption) | (simp; done) | (simp; omega) | omega) _ | refine Below.alloc ?_ (by first | (simp; done) | (simp; omega) | omega) _ | refine Below.drew ?_))⟩
  have hlen2 : Hid (l.length = r.length) := hlen
  have b0 : ((l.length : Int) != (r.length : Int)) = false := by rw [bne_eq_false_iff_eq]; omega
  clear hlen
  go_enter Tryz.func11, Tryz.ntmps11
  go_upto_region 3 with fail
  refine wp_named ?_
  intro W hW
  have kA : blk W w.heap.size #[.int .i64 nx, .int .i64 ny, .slice A l.length ca] 34 := by rw [hW]; exact (by repeat (first | with_reducible exact blk_new _ _ _ | ((with_reducible refine blk_at ?_); (simp; done)) | with_reducible apply blk_alloc | with_reducible apply blk_gw | with_reducible apply blk_drew))
  have kB : blk W (w.heap.size + 1) #[.int .i64 nx, .int .i64 ny, .slice B r.length cb] 34 := by rw [hW]; exact (by repeat (first | with_reducible exact blk_new _ _ _ | ((with_reducible refine blk_at ?_); (simp; done)) | with_reducible apply blk_alloc | with_reducible apply blk_gw | with_reducible apply blk_drew))
  have hbW : Below w.heap.size w W := by rw [hW]; exact (by repeat (first | with_reducible exact Below.refl _ _ | with_reducible assumption | refine bgw ?_ (by first | (simp; done) | (simp; omega) | omega) _ | refine Below.setCell ?_ (by first | exact Nat.le_of_not_lt (by assumption) | (simp; done) | (simp; omega) | omega) _ | refine Below.alloc ?_ (by first | (simp; done) | (simp; omega) | omega) _ | refine Below.drew ?_))
  clear hW
  have hszW := hbW.size
  have okA := blk_older kA
  have ckA_0 : _ = some _ := blk_cell kA 0
  have ckA_1 : _ = some _ := blk_cell kA 1
  have ckA_2 : _ = some _ := blk_cell kA 2
  have fkA_0 := blk_free kA 0
  have fkA_1 := blk_free kA 1
  have fkA_2 := blk_free kA 2
  have okB := blk_older kB
  have ckB_0 : _ = some _ := blk_cell kB 0
  have ckB_1 : _ = some _ := blk_cell kB 1
  have ckB_2 : _ = some _ := blk_cell kB 2
  have fkB_0 := blk_free kB 0
  have fkB_1 := blk_free kB 1
  have fkB_2 := blk_free kB 2
  go_wp2_with fail
  go_loopw [5] (fun i wr => ∃ k : Nat, k ≤ l.length ∧ i = .int .i64 (k : Int) ∧ (∀ j (h1 : j < l.length) (h2 : j < r.length), j < k → l[j] = r[j]) ∧ ∃ p, wr = gw W p)
    (fun i _ => (l.length - intOf i).toNat)
  case atStart => exact ⟨0, by omega, rfl, by omega, ⟨⟨W.drawn, #[]⟩, (gw_zero W).symm⟩⟩
  case round =>
    obtain ⟨k, hk, rfl, hall, p, rfl⟩ := hrel
    by_cases hlt : k < l.length
    · have hlt2 : k < r.length := by have := hlen2.out; omega
      have i0 : (0 : Int) ≤ (k : Int) := by omega
      have i1 : (k : Int) < (l.length : Int) := by omega
      have i2 : (k : Int) < (r.length : Int) := by omega
      have hbp : Below w.heap.size w (gw W p) := Below.trans hbW ((below_gw W p).mono hszW)
      obtain ⟨b, off, rfl, hc⟩ := cnts_open ha (by omega)
      obtain ⟨b', off', rfl, hc'⟩ := cnts_open hb (by omega)
      obtain ⟨d0, d1, d2, d3, d4, d5⟩ := hc k hlt _ hbp
      obtain ⟨f0, f1, f2, f3, f4, f5⟩ := hc' k hlt2 _ hbp
      have ob := older_of_cell d0
      have ob' := older_of_cell f0
      have hno : ¬ l[k] = r[k] → R = false := fun h => by
        rw [Bool.eq_false_iff]; intro e; exact h (by have := (hR1.out.1 e).2.2; subst this; rfl)
      have hsucc : l[k] = r[k] → ∀ j (h1 : j < l.length) (h2 : j < r.length), j < k + 1 → l[j] = r[j] := fun g j h1 h2 hj => by
        rcases (by omega : j < k ∨ j = k) with h3 | rfl
        · exact hall j h1 h2 h3
        · exact g
      have hiff : Hid (l[k] = r[k] ↔ (l[k].x = r[k].x ∧ l[k].y = r[k].y ∧ l[k].sep = r[k].sep ∧ l[k].id = r[k].id ∧ l[k].ni = r[k].ni ∧ l[k].ti = r[k].ti)) := cnt_ext _ _
      clear hc hc' hall
      generalize l[k].x = a0 at *
      generalize r[k].x = b0 at *
      generalize l[k].y = a1 at *
      generalize r[k].y = b1 at *
      generalize l[k].sep = a2 at *
      generalize r[k].sep = b2 at *
      generalize l[k].id = a3 at *
      generalize r[k].id = b3 at *
      generalize l[k].ni = a4 at *
      generalize r[k].ni = b4 at *
      generalize l[k].ti = a5 at *
      generalize r[k].ti = b5 at *
      by_cases c0 : a0 = b0
      · by_cases c1 : a1 = b1
        · by_cases c2 : a2 = b2
          · by_cases c3 : a3 = b3
            · by_cases c4 : a4 = b4
              · by_cases c5 : a5 = b5
                · subst c0 c1 c2 c3 c4 c5
                  have hg := hsucc (hiff.out.2 ⟨rfl, rfl, rfl, rfl, rfl, rfl⟩)
                  clear hno hsucc hiff
                  go_wp2_with fail
                  refine wp_region_gw (by kernel_rfl) (by kernel_rfl) ?_
                  repeat (go_big_quiet_step (fail))
                  refine wpQuiet_nil ?_
                  intro w1 hw1
                  obtain ⟨q, rfl⟩ := hw1
                  go_wp2_with fail
                  exact ⟨⟨k + 1, by omega, by go_num, hg, gw_gw _ _ _⟩, by (try go_num); simp [intOf]; (try omega)⟩
                · obtain rfl := hno fun h => c5 ((hiff.out.1 h).2.2.2.2.2)
                  subst c0 c1 c2 c3 c4
                  have e1 : (a5 == b5) = false := by rw [beq_eq_false_iff_ne]; exact c5
                  clear hno hsucc hiff
                  go_wp2_with fail
                  refine wp_region_gw (by kernel_rfl) (by kernel_rfl) ?_
                  repeat (go_big_quiet_step (fail))
                  refine wpQuiet_nil ?_
                  intro w1 hw1
                  obtain ⟨q, rfl⟩ := hw1
                  go_wp2_with fail
                  go_ret
                  exact ⟨rfl, Below.trans hbW (Below.mono (by repeat (first | with_reducible exact Below.refl _ _ | with_reducible assumption | refine bgw ?_ (by first | (simp; done) | (simp; omega) | omega) _ | refine Below.setCell ?_ (by first | exact Nat.le_of_not_lt (by assumption) | (simp; done) | (simp; omega) | omega) _ | refine Below.alloc ?_ (by first | (simp; done) | (simp; omega) | omega) _ | refine Below.drew ?_)) hszW)⟩
              · obtain rfl := hno fun h => c4 ((hiff.out.1 h).2.2.2.2.1)
                subst c0 c1 c2 c3
                have e1 : (a4 == b4) = false := by rw [beq_eq_false_iff_ne]; exact c4
                clear hno hsucc hiff
                go_wp2_with fail
                refine wp_region_gw (by kernel_rfl) (by kernel_rfl) ?_
                repeat (go_big_quiet_step (fail))
                refine wpQuiet_nil ?_
                intro w1 hw1
                obtain ⟨q, rfl⟩ := hw1
                go_wp2_with fail
                go_ret
                exact ⟨rfl, Below.trans hbW (Below.mono (by repeat (first | with_reducible exact Below.refl _ _ | with_reducible assumption | refine bgw ?_ (by first | (simp; done) | (simp; omega) | omega) _ | refine Below.setCell ?_ (by first | exact Nat.le_of_not_lt (by assumption) | (simp; done) | (simp; omega) | omega) _ | refine Below.alloc ?_ (by first | (simp; done) | (simp; omega) | omega) _ | refine Below.drew ?_)) hszW)⟩
            · obtain rfl := hno fun h => c3 ((hiff.out.1 h).2.2.2.1)
              subst c0 c1 c2
              have e1 : (a3 == b3) = false := by rw [beq_eq_false_iff_ne]; exact c3
              clear hno hsucc hiff
              go_wp2_with fail
              refine wp_region_gw (by kernel_rfl) (by kernel_rfl) ?_
              repeat (go_big_quiet_step (fail))
              refine wpQuiet_nil ?_
              intro w1 hw1
              obtain ⟨q, rfl⟩ := hw1
              go_wp2_with fail
              go_ret
              exact ⟨rfl, Below.trans hbW (Below.mono (by repeat (first | with_reducible exact Below.refl _ _ | with_reducible assumption | refine bgw ?_ (by first | (simp; done) | (simp; omega) | omega) _ | refine Below.setCell ?_ (by first | exact Nat.le_of_not_lt (by assumption) | (simp; done) | (simp; omega) | omega) _ | refine Below.alloc ?_ (by first | (simp; done) | (simp; omega) | omega) _ | refine Below.drew ?_)) hszW)⟩
          · obtain rfl := hno fun h => c2 ((hiff.out.1 h).2.2.1)
            subst c0 c1
            have e1 : (a2 == b2) = false := by rw [beq_eq_false_iff_ne]; exact c2
            clear hno hsucc hiff
            go_wp2_with fail
            refine wp_region_gw (by kernel_rfl) (by kernel_rfl) ?_
            repeat (go_big_quiet_step (fail))
            refine wpQuiet_nil ?_
            intro w1 hw1
            obtain ⟨q, rfl⟩ := hw1
            go_wp2_with fail
            go_ret
            exact ⟨rfl, Below.trans hbW (Below.mono (by repeat (first | with_reducible exact Below.refl _ _ | with_reducible assumption | refine bgw ?_ (by first | (simp; done) | (simp; omega) | omega) _ | refine Below.setCell ?_ (by first | exact Nat.le_of_not_lt (by assumption) | (simp; done) | (simp; omega) | omega) _ | refine Below.alloc ?_ (by first | (simp; done) | (simp; omega) | omega) _ | refine Below.drew ?_)) hszW)⟩
        · obtain rfl := hno fun h => c1 ((hiff.out.1 h).2.1)
          subst c0
          have e1 : (a1 == b1) = false := by rw [beq_eq_false_iff_ne]; exact c1
          clear hno hsucc hiff
          go_wp2_with fail
          refine wp_region_gw (by kernel_rfl) (by kernel_rfl) ?_
          repeat (go_big_quiet_step (fail))
          refine wpQuiet_nil ?_
          intro w1 hw1
          obtain ⟨q, rfl⟩ := hw1
          go_wp2_with fail
          go_ret
          exact ⟨rfl, Below.trans hbW (Below.mono (by repeat (first | with_reducible exact Below.refl _ _ | with_reducible assumption | refine bgw ?_ (by first | (simp; done) | (simp; omega) | omega) _ | refine Below.setCell ?_ (by first | exact Nat.le_of_not_lt (by assumption) | (simp; done) | (simp; omega) | omega) _ | refine Below.alloc ?_ (by first | (simp; done) | (simp; omega) | omega) _ | refine Below.drew ?_)) hszW)⟩
      · obtain rfl := hno fun h => c0 ((hiff.out.1 h).1)
        have e1 : (a0 == b0) = false := by rw [beq_eq_false_iff_ne]; exact c0
        clear hno hsucc hiff
        go_wp2_with fail
        refine wp_region_gw (by kernel_rfl) (by kernel_rfl) ?_
        repeat (go_big_quiet_step (fail))
        refine wpQuiet_nil ?_
        intro w1 hw1
        obtain ⟨q, rfl⟩ := hw1
        go_wp2_with fail
        go_ret
        exact ⟨rfl, Below.trans hbW (Below.mono (by repeat (first | with_reducible exact Below.refl _ _ | with_reducible assumption | refine bgw ?_ (by first | (simp; done) | (simp; omega) | omega) _ | refine Below.setCell ?_ (by first | exact Nat.le_of_not_lt (by assumption) | (simp; done) | (simp; omega) | omega) _ | refine Below.alloc ?_ (by first | (simp; done) | (simp; omega) | omega) _ | refine Below.drew ?_)) hszW)⟩
    · obtain rfl : k = l.length := by omega
      have i1 : ¬ (l.length : Int) < (l.length : Int) := by omega
      obtain rfl : R = true := hR1.out.2 ⟨by first | rfl | trivial, by first | rfl | trivial, List.ext_getElem hlen2.out fun j h1 h2 => hall j h1 h2 h1⟩
      clear hall
      go_wp2_with fail
      go_ret
      exact ⟨rfl, Below.trans hbW (Below.mono (by repeat (first | with_reducible exact Below.refl _ _ | with_reducible assumption | refine bgw ?_ (by first | (simp; done) | (simp; omega) | omega) _ | refine Below.setCell ?_ (by first | exact Nat.le_of_not_lt (by assumption) | (simp; done) | (simp; omega) | omega) _ | refine Below.alloc ?_ (by first | (simp; done) | (simp; omega) | omega) _ | refine Below.drew ?_)) hszW)⟩

end Go.Proofs.YtiecpebckmihgaaGreat
