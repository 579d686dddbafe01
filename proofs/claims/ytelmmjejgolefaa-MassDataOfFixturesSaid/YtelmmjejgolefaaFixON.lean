/- Laws of chapter 13: MassDataOfFixtures. -/
import Derived.Test.YtelmmjejgolefaaFixOL
set_option linter.unusedVariables false
namespace Go.Proofs.Ytelmmjejgolefaa
open Go.RowKit Fx

set_option maxRecDepth 100000 in
set_option maxHeartbeats 8000000 in
theorem walk_MassDataOfFixtures (A : Option Addr) (cap : Nat) (fs : List Fxr) (K : Int) (f : Bool) (w : World) (ha : Fxs w A fs) (hl : fs.length ≤ cap) (hc : cap ≤ maxLen) : Calls Try.prog 5 #[.slice A fs.length cap, .int .i64 K, .bool f] w fun e w' => e = .returned (.bool true) ∧ Below w.heap.size w w' := by
  have e0 := example13_b
  by_cases n1 : (8 : Int) < (fs.length : Int)
  focus
    go_enter Try.func5, Try.ntmps5
    go_wp2_with (go_at_call 9; refine Calls.mono (gw_at (e0 _)) ?_; rintro e w1 ⟨rfl, q, rfl⟩)
    go_ret
    exact ⟨rfl, (by repeat (first | with_reducible exact Below.refl _ _ | with_reducible assumption | refine bgw ?_ (by first | (simp; done) | (simp; omega) | omega) _ | refine Below.setCell ?_ (by first | exact Nat.le_of_not_lt (by assumption) | (simp; done) | (simp; omega) | omega) _ | refine Below.alloc ?_ (by first | (simp; done) | (simp; omega) | omega) _ | refine Below.drew ?_))⟩
  have cO := fun w' (hv : ∀ g ∈ fs, g.ps.length ≤ 1000000) h => yoff_b A cap fs (by omega) hv w' h
  have cR := fun w' (hv : ∀ g ∈ fs, g.ps.length ≤ 1000000) h => roff_b A cap fs (by omega) hv w' h
  generalize ofF fs = P at *
  have cI := fun w' => yinv_b P.m P.x P.y P.i K f w'
  have cJ := fun w' => rinv_b P.m P.x P.y P.i K f w'
  generalize invM P.m K = IM at *
  generalize invI P.i K f = II at *
  go_enter Try.func5, Try.ntmps5
  go_wp2_with fail
  go_loopw [7] (fun i wr => ∃ k : Nat, k ≤ fs.length ∧ i = .int .i64 (k : Int) ∧ Hid (∀ j (h : j < fs.length), j < k → fs[j].ps.length ≤ 20) ∧ ∃ p, wr = gw w p)
    (fun i _ => (fs.length - intOf i).toNat)
  case atStart => exact ⟨0, by omega, rfl, fun j h hj => absurd hj (by omega), ⟨⟨w.drawn, #[]⟩, (gw_zero w).symm⟩⟩
  case round =>
    obtain ⟨k, hk, rfl, hall, p, rfl⟩ := hrel
    by_cases hlt : k < fs.length
    · have j0 : (0 : Int) ≤ (k : Int) := by omega
      have j1 : (k : Int) < (fs.length : Int) := by omega
      obtain ⟨b2, off2, hA2, hc2⟩ := fxs_open ha (by omega)
      subst hA2
      obtain ⟨_, hc3⟩ := hc2 k hlt
      obtain ⟨d0, d1, d2, d3, d6⟩ := hc3 _ (below_gw w p)
      have od := older_of_cell d0
      have hnx : Hid (fs[k].ps.length ≤ 20 → Hid (∀ j (h : j < fs.length), j < k + 1 → fs[j].ps.length ≤ 20)) := fun g j hj hjk => by
        rcases (by omega : j < k ∨ j = k) with h4 | rfl
        · exact hall.out j hj h4
        · exact g
      clear hc2 hc3 hall cO cR cI cJ
      generalize fs[k].K = kk at *
      generalize fs[k].R = R at *
      generalize fs[k].D = D at *
      generalize fs[k].sen = sen at *
      generalize fs[k].A = SA at *
      generalize fs[k].cap = sc at *
      generalize fs[k].ps.length = pl at *
      by_cases g1 : (20 : Int) < (pl : Int)
      · clear hnx
        go_wp2_with (go_at_call 9; refine Calls.mono (gw_at (e0 _)) ?_; rintro e w1 ⟨rfl, q, rfl⟩)
        go_ret
        exact ⟨rfl, (by repeat (first | with_reducible exact Below.refl _ _ | with_reducible assumption | refine bgw ?_ (by first | (simp; done) | (simp; omega) | omega) _ | refine Below.setCell ?_ (by first | exact Nat.le_of_not_lt (by assumption) | (simp; done) | (simp; omega) | omega) _ | refine Below.alloc ?_ (by first | (simp; done) | (simp; omega) | omega) _ | refine Below.drew ?_))⟩
      · have hg := hnx.out (by omega)
        clear hnx
        go_wp2_with fail
        exact ⟨⟨k + 1, by omega, by go_num, hg, gw_of_below (by repeat (first | with_reducible exact Below.refl _ _ | with_reducible assumption | refine bgw ?_ (by first | (simp; done) | (simp; omega) | omega) _ | refine Below.setCell ?_ (by first | exact Nat.le_of_not_lt (by assumption) | (simp; done) | (simp; omega) | omega) _ | refine Below.alloc ?_ (by first | (simp; done) | (simp; omega) | omega) _ | refine Below.drew ?_))⟩, by (try go_num); simp [intOf]; (try omega)⟩
    · obtain rfl : k = fs.length := by omega
      have j1 : ¬ (fs.length : Int) < (fs.length : Int) := by omega
      have hv : ∀ g ∈ fs, g.ps.length ≤ 1000000 := fun g hg => by
        obtain ⟨j, hj, rfl⟩ := List.mem_iff_getElem.1 hg
        have := hall.out j hj hj
        omega
      have cO2 := fun w' h => cO w' hv h
      have cR2 := fun w' h => cR w' hv h
      clear hall hv cO cR
      go_wp2_with (first | (go_at_call 14; refine Calls.mono (gw_at (cO2 _ (Fxs.to ha (by repeat (first | with_reducible exact Below.refl _ _ | with_reducible assumption | refine bgw ?_ (by first | (simp; done) | (simp; omega) | omega) _ | refine Below.setCell ?_ (by first | exact Nat.le_of_not_lt (by assumption) | (simp; done) | (simp; omega) | omega) _ | refine Below.alloc ?_ (by first | (simp; done) | (simp; omega) | omega) _ | refine Below.drew ?_))))) ?_; rintro e w1 ⟨rfl, q1, rfl⟩) | (go_at_call 15; refine Calls.mono (gw_at (cI _)) ?_; rintro e w1 ⟨rfl, q2, rfl⟩) | (go_at_call 16; refine Calls.mono (gw_at (cJ _)) ?_; rintro e w1 ⟨rfl, q3, rfl⟩))
      clear n1 j1
      refine wp_region_gw (by kernel_rfl) (by kernel_rfl) ?_
      repeat (go_big_quiet_step (first | (go_at_call 17; exact gw_call (cR2 _ (Fxs.to ha (by repeat (first | with_reducible exact Below.refl _ _ | with_reducible assumption | refine bgw ?_ (by first | (simp; done) | (simp; omega) | omega) _ | refine Below.setCell ?_ (by first | exact Nat.le_of_not_lt (by assumption) | (simp; done) | (simp; omega) | omega) _ | refine Below.alloc ?_ (by first | (simp; done) | (simp; omega) | omega) _ | refine Below.drew ?_))))) | (go_at_call 9; exact gw_call (e0 _))))
      refine wpQuiet_nil ?_
      intro w1 hw1
      obtain ⟨q, rfl⟩ := hw1
      go_wp2_with fail
      go_ret
      exact ⟨rfl, (by repeat (first | with_reducible exact Below.refl _ _ | with_reducible assumption | refine bgw ?_ (by first | (simp; done) | (simp; omega) | omega) _ | refine Below.setCell ?_ (by first | exact Nat.le_of_not_lt (by assumption) | (simp; done) | (simp; omega) | omega) _ | refine Below.alloc ?_ (by first | (simp; done) | (simp; omega) | omega) _ | refine Below.drew ?_))⟩

end Go.Proofs.Ytelmmjejgolefaa
