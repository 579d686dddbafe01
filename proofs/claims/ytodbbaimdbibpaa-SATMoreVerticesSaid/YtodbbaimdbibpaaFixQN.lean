/- Laws of chapter 14: SATSeparates, SATMoreVertices. -/
import Derived.Test.YtodbbaimdbibpaaFixQL
import Derived.Test.YtodbbaimdbibpaaCoB
import Derived.Test.YtodbbaimdbibpaaKi3
import Derived.Test.YtodbbaimdbibpaaCo8
set_option linter.unusedVariables false
namespace Go.Proofs.Ytodbbaimdbibpaa
open Go.RowKit Fx

set_option maxHeartbeats 16000000 in
theorem walk_SATSeparates (A : Option Addr) (cap : Nat) (ps : List (Int × Int)) (B_ : Option Addr) (cap2 : Nat) (qs : List (Int × Int)) (x y : Int) (w : World) (hp : Pts w A ps) (hl : ps.length ≤ cap) (hc : cap ≤ maxLen) (hq : Pts w B_ qs) (hm : qs.length ≤ cap2) (hc2 : cap2 ≤ maxLen) : Calls Try.prog 3 #[.slice A ps.length cap, .slice B_ qs.length cap2, .agg #[.int .i64 x, .int .i64 y]] w fun e w' => e = .returned (.bool true) ∧ Below w.heap.size w w' := by
  have e0 := example14_b
  have cA := fun w' h => xconvL_b A cap ps w' h
  have cB := fun w' h => xconvL_b B_ cap2 qs w' h
  cases hva : cvx ps
  focus
    rw [hva] at cA
    clear cB
    go_enter Try.func3, Try.ntmps3
    go_wp2_with (first | (go_at_call 9; with_reducible_and_instances refine Calls.mono (gw_at (cA _ (Pts.to hp (by repeat (first | with_reducible exact Below.refl _ _ | with_reducible assumption | refine bgw ?_ (by first | (simp; done) | (simp; omega) | omega) _ | refine Below.setCell ?_ (by first | exact Nat.le_of_not_lt (by assumption) | (simp; done) | (simp; omega) | omega) _ | refine Below.alloc ?_ (by first | (simp; done) | (simp; omega) | omega) _ | refine Below.drew ?_))))) ?_; rintro e w1 ⟨rfl, q, rfl⟩) | (go_at_call 10; refine Calls.mono (gw_at (e0 _)) ?_; rintro e w1 ⟨rfl, q, rfl⟩))
    go_ret
    exact ⟨rfl, (by repeat (first | with_reducible exact Below.refl _ _ | with_reducible assumption | refine bgw ?_ (by first | (simp; done) | (simp; omega) | omega) _ | refine Below.setCell ?_ (by first | exact Nat.le_of_not_lt (by assumption) | (simp; done) | (simp; omega) | omega) _ | refine Below.alloc ?_ (by first | (simp; done) | (simp; omega) | omega) _ | refine Below.drew ?_))⟩
  cases hvb : cvx qs
  focus
    rw [hva] at cA
    rw [hvb] at cB
    go_enter Try.func3, Try.ntmps3
    go_wp2_with (first | (go_at_call 9; with_reducible_and_instances refine Calls.mono (gw_at (cA _ (Pts.to hp (by repeat (first | with_reducible exact Below.refl _ _ | with_reducible assumption | refine bgw ?_ (by first | (simp; done) | (simp; omega) | omega) _ | refine Below.setCell ?_ (by first | exact Nat.le_of_not_lt (by assumption) | (simp; done) | (simp; omega) | omega) _ | refine Below.alloc ?_ (by first | (simp; done) | (simp; omega) | omega) _ | refine Below.drew ?_))))) ?_; rintro e w1 ⟨rfl, q, rfl⟩) | (go_at_call 9; with_reducible_and_instances refine Calls.mono (gw_at (cB _ (Pts.to hq (by repeat (first | with_reducible exact Below.refl _ _ | with_reducible assumption | refine bgw ?_ (by first | (simp; done) | (simp; omega) | omega) _ | refine Below.setCell ?_ (by first | exact Nat.le_of_not_lt (by assumption) | (simp; done) | (simp; omega) | omega) _ | refine Below.alloc ?_ (by first | (simp; done) | (simp; omega) | omega) _ | refine Below.drew ?_))))) ?_; rintro e w1 ⟨rfl, q, rfl⟩) | (go_at_call 10; refine Calls.mono (gw_at (e0 _)) ?_; rintro e w1 ⟨rfl, q, rfl⟩))
    go_ret
    exact ⟨rfl, (by repeat (first | with_reducible exact Below.refl _ _ | with_reducible assumption | refine bgw ?_ (by first | (simp; done) | (simp; omega) | omega) _ | refine Below.setCell ?_ (by first | exact Nat.le_of_not_lt (by assumption) | (simp; done) | (simp; omega) | omega) _ | refine Below.alloc ?_ (by first | (simp; done) | (simp; omega) | omega) _ | refine Below.drew ?_))⟩
  rw [hva] at cA
  rw [hvb] at cB
  have hA := cvx_iff.1 hva
  have hB := cvx_iff.1 hvb
  have la : ps.length ≤ 8 := hA.2.1
  have lb : qs.length ≤ 8 := hB.2.1
  have la' : (ps.length : Int) ≤ 8 := by omega
  have lb' : (qs.length : Int) ≤ 8 := by omega
  have hsep : Hid ((128 < (msep ps qs).2 ∨ 128 < (msep qs ps).2) → ∀ x y, cont ps x y = false ∨ cont qs x y = false) := sat_sep hA hB
  have hAm : Hid (∀ p ∈ ps, cont ps p.1 p.2 = true) := fun p h => cvx_cont hA h
  have hBm : Hid (∀ p ∈ qs, cont qs p.1 p.2 = true) := fun p h => cvx_cont hB h
  have cM := fun w' h1 h2 => ymsep_b A B_ cap cap2 ps qs (by omega) (by omega) w' h1 h2
  have cM2 := fun w' h1 h2 => ymsep_b B_ A cap2 cap qs ps (by omega) (by omega) w' h1 h2
  have cCa := fun x y w' h => xcont_b A cap ps x y (by omega) w' h
  have cCb := fun x y w' h => xcont_b B_ cap2 qs x y (by omega) w' h
  clear hA hB hva hvb
  generalize (msep ps qs).1 = i1 at *
  generalize (msep ps qs).2 = s1 at *
  generalize (msep qs ps).1 = i2 at *
  generalize (msep qs ps).2 = s2 at *
  by_cases hs : s1 ≤ 128 ∧ s2 ≤ 128
  focus
    obtain ⟨g1, g2⟩ := hs
    clear hsep hAm hBm cCa cCb
    go_enter Try.func3, Try.ntmps3
    go_wp2_with (first | (go_at_call 9; with_reducible_and_instances refine Calls.mono (gw_at (cA _ (Pts.to hp (by repeat (first | with_reducible exact Below.refl _ _ | with_reducible assumption | refine bgw ?_ (by first | (simp; done) | (simp; omega) | omega) _ | refine Below.setCell ?_ (by first | exact Nat.le_of_not_lt (by assumption) | (simp; done) | (simp; omega) | omega) _ | refine Below.alloc ?_ (by first | (simp; done) | (simp; omega) | omega) _ | refine Below.drew ?_))))) ?_; rintro e w1 ⟨rfl, q, rfl⟩) | (go_at_call 9; with_reducible_and_instances refine Calls.mono (gw_at (cB _ (Pts.to hq (by repeat (first | with_reducible exact Below.refl _ _ | with_reducible assumption | refine bgw ?_ (by first | (simp; done) | (simp; omega) | omega) _ | refine Below.setCell ?_ (by first | exact Nat.le_of_not_lt (by assumption) | (simp; done) | (simp; omega) | omega) _ | refine Below.alloc ?_ (by first | (simp; done) | (simp; omega) | omega) _ | refine Below.drew ?_))))) ?_; rintro e w1 ⟨rfl, q, rfl⟩) | (go_at_call 11; with_reducible_and_instances refine Calls.mono (gw_at (cM _ (Pts.to hp (by repeat (first | with_reducible exact Below.refl _ _ | with_reducible assumption | refine bgw ?_ (by first | (simp; done) | (simp; omega) | omega) _ | refine Below.setCell ?_ (by first | exact Nat.le_of_not_lt (by assumption) | (simp; done) | (simp; omega) | omega) _ | refine Below.alloc ?_ (by first | (simp; done) | (simp; omega) | omega) _ | refine Below.drew ?_))) (Pts.to hq (by repeat (first | with_reducible exact Below.refl _ _ | with_reducible assumption | refine bgw ?_ (by first | (simp; done) | (simp; omega) | omega) _ | refine Below.setCell ?_ (by first | exact Nat.le_of_not_lt (by assumption) | (simp; done) | (simp; omega) | omega) _ | refine Below.alloc ?_ (by first | (simp; done) | (simp; omega) | omega) _ | refine Below.drew ?_))))) ?_; rintro e w1 ⟨rfl, q, rfl⟩) | (go_at_call 11; with_reducible_and_instances refine Calls.mono (gw_at (cM2 _ (Pts.to hq (by repeat (first | with_reducible exact Below.refl _ _ | with_reducible assumption | refine bgw ?_ (by first | (simp; done) | (simp; omega) | omega) _ | refine Below.setCell ?_ (by first | exact Nat.le_of_not_lt (by assumption) | (simp; done) | (simp; omega) | omega) _ | refine Below.alloc ?_ (by first | (simp; done) | (simp; omega) | omega) _ | refine Below.drew ?_))) (Pts.to hp (by repeat (first | with_reducible exact Below.refl _ _ | with_reducible assumption | refine bgw ?_ (by first | (simp; done) | (simp; omega) | omega) _ | refine Below.setCell ?_ (by first | exact Nat.le_of_not_lt (by assumption) | (simp; done) | (simp; omega) | omega) _ | refine Below.alloc ?_ (by first | (simp; done) | (simp; omega) | omega) _ | refine Below.drew ?_))))) ?_; rintro e w1 ⟨rfl, q, rfl⟩) | (go_at_call 10; refine Calls.mono (gw_at (e0 _)) ?_; rintro e w1 ⟨rfl, q, rfl⟩))
    go_ret
    exact ⟨rfl, (by repeat (first | with_reducible exact Below.refl _ _ | with_reducible assumption | refine bgw ?_ (by first | (simp; done) | (simp; omega) | omega) _ | refine Below.setCell ?_ (by first | exact Nat.le_of_not_lt (by assumption) | (simp; done) | (simp; omega) | omega) _ | refine Below.alloc ?_ (by first | (simp; done) | (simp; omega) | omega) _ | refine Below.drew ?_))⟩
  have hno : Hid (∀ x y, cont ps x y = false ∨ cont qs x y = false) := hsep.out (by omega)
  have hcase : 128 < s1 ∨ (s1 ≤ 128 ∧ 128 < s2) := by omega
  have hAq : Hid (∀ i (h : i < ps.length), cont qs ps[i].1 ps[i].2 = false) := fun i h => by
    rcases hno.out ps[i].1 ps[i].2 with k | k
    · rw [hAm.out _ (List.getElem_mem h)] at k; cases k
    · exact k
  have hBp : Hid (∀ i (h : i < qs.length), cont ps qs[i].1 qs[i].2 = false) := fun i h => by
    rcases hno.out qs[i].1 qs[i].2 with k | k
    · exact k
    · rw [hBm.out _ (List.getElem_mem h)] at k; cases k
  have hxy := hno.out x y
  obtain ⟨u, hu⟩ : ∃ u, cont ps x y = u := ⟨_, rfl⟩
  obtain ⟨v, hv⟩ : ∃ v, cont qs x y = v := ⟨_, rfl⟩
  rw [hu, hv] at hxy
  have cXa := cCa x y
  have cXb := cCb x y
  rw [hu] at cXa
  rw [hv] at cXb
  clear hsep hAm hBm hs hno hu hv
  go_enter Try.func3, Try.ntmps3
  rcases hcase with g1 | ⟨g1, g2⟩
  all_goals
    go_wp2_with (first | (go_at_call 9; with_reducible_and_instances refine Calls.mono (gw_at (cA _ (Pts.to hp (by repeat (first | with_reducible exact Below.refl _ _ | with_reducible assumption | refine bgw ?_ (by first | (simp; done) | (simp; omega) | omega) _ | refine Below.setCell ?_ (by first | exact Nat.le_of_not_lt (by assumption) | (simp; done) | (simp; omega) | omega) _ | refine Below.alloc ?_ (by first | (simp; done) | (simp; omega) | omega) _ | refine Below.drew ?_))))) ?_; rintro e w1 ⟨rfl, q, rfl⟩) | (go_at_call 9; with_reducible_and_instances refine Calls.mono (gw_at (cB _ (Pts.to hq (by repeat (first | with_reducible exact Below.refl _ _ | with_reducible assumption | refine bgw ?_ (by first | (simp; done) | (simp; omega) | omega) _ | refine Below.setCell ?_ (by first | exact Nat.le_of_not_lt (by assumption) | (simp; done) | (simp; omega) | omega) _ | refine Below.alloc ?_ (by first | (simp; done) | (simp; omega) | omega) _ | refine Below.drew ?_))))) ?_; rintro e w1 ⟨rfl, q, rfl⟩) | (go_at_call 11; with_reducible_and_instances refine Calls.mono (gw_at (cM _ (Pts.to hp (by repeat (first | with_reducible exact Below.refl _ _ | with_reducible assumption | refine bgw ?_ (by first | (simp; done) | (simp; omega) | omega) _ | refine Below.setCell ?_ (by first | exact Nat.le_of_not_lt (by assumption) | (simp; done) | (simp; omega) | omega) _ | refine Below.alloc ?_ (by first | (simp; done) | (simp; omega) | omega) _ | refine Below.drew ?_))) (Pts.to hq (by repeat (first | with_reducible exact Below.refl _ _ | with_reducible assumption | refine bgw ?_ (by first | (simp; done) | (simp; omega) | omega) _ | refine Below.setCell ?_ (by first | exact Nat.le_of_not_lt (by assumption) | (simp; done) | (simp; omega) | omega) _ | refine Below.alloc ?_ (by first | (simp; done) | (simp; omega) | omega) _ | refine Below.drew ?_))))) ?_; rintro e w1 ⟨rfl, q, rfl⟩) | (go_at_call 11; with_reducible_and_instances refine Calls.mono (gw_at (cM2 _ (Pts.to hq (by repeat (first | with_reducible exact Below.refl _ _ | with_reducible assumption | refine bgw ?_ (by first | (simp; done) | (simp; omega) | omega) _ | refine Below.setCell ?_ (by first | exact Nat.le_of_not_lt (by assumption) | (simp; done) | (simp; omega) | omega) _ | refine Below.alloc ?_ (by first | (simp; done) | (simp; omega) | omega) _ | refine Below.drew ?_))) (Pts.to hp (by repeat (first | with_reducible exact Below.refl _ _ | with_reducible assumption | refine bgw ?_ (by first | (simp; done) | (simp; omega) | omega) _ | refine Below.setCell ?_ (by first | exact Nat.le_of_not_lt (by assumption) | (simp; done) | (simp; omega) | omega) _ | refine Below.alloc ?_ (by first | (simp; done) | (simp; omega) | omega) _ | refine Below.drew ?_))))) ?_; rintro e w1 ⟨rfl, q, rfl⟩))
    refine wp_named ?_
    intro W hW
    have hbW : Below w.heap.size w W := by rw [hW]; exact (by repeat (first | with_reducible exact Below.refl _ _ | with_reducible assumption | refine bgw ?_ (by first | (simp; done) | (simp; omega) | omega) _ | refine Below.setCell ?_ (by first | exact Nat.le_of_not_lt (by assumption) | (simp; done) | (simp; omega) | omega) _ | refine Below.alloc ?_ (by first | (simp; done) | (simp; omega) | omega) _ | refine Below.drew ?_))
    have kV : blk W w.heap.size #[.int .i64 x, .int .i64 y] 24 := by rw [hW]; first | exact (by repeat (first | with_reducible exact blk_new _ _ _ | ((with_reducible refine blk_at ?_); (simp; done)) | with_reducible apply blk_alloc | with_reducible apply blk_gw | with_reducible apply blk_drew)) | exact (by apply blk_of; (repeat (first  | with_reducible apply blk_drew | with_reducible apply blk_gw | with_reducible apply blk_alloc | with_reducible apply blk_set | ((with_reducible apply blk_other); focus omega))); (first | rfl | simp))
    clear hW
    have hPA : Pts W A ps := Pts.to hp hbW
    have hPB : Pts W B_ qs := Pts.to hq hbW
    have hszW := hbW.size
    go_loopw [11] (fun k wr => ∃ m : Nat, m ≤ ps.length ∧ k = .int .i64 (m : Int) ∧ ∃ p, wr = gw W p)
      (fun k _ => (ps.length - intOf k).toNat)
    case atStart => exact ⟨0, by omega, rfl, ⟨⟨W.drawn, #[]⟩, (gw_zero W).symm⟩⟩
    case round =>
      obtain ⟨m, hm2, rfl, p, rfl⟩ := hrel
      by_cases hlt : m < ps.length
      · have k0 : (0 : Int) ≤ (m : Int) := by omega
        have k1 : (m : Int) < (ps.length : Int) := by omega
        obtain ⟨b, off, hA2, hcc⟩ := pts_open hPA (by omega)
        obtain ⟨c0, c1⟩ := hcc p m hlt
        have cK := cCb ps[m].1 ps[m].2
        rw [hAq.out m hlt] at cK
        subst hA2
        have oc := older_of_cell c0
        clear hcc hAq hBp cCa cCb
        generalize ps[m].1 = a1 at *
        generalize ps[m].2 = a2 at *
        go_wp2_with (go_at_call 12; with_reducible_and_instances refine Calls.mono (gw_at (cK _ (Pts.to hPB (by repeat (first | with_reducible exact Below.refl _ _ | with_reducible assumption | refine bgw ?_ (by first | (simp; done) | (simp; omega) | omega) _ | refine Below.setCell ?_ (by first | exact Nat.le_of_not_lt (by assumption) | (simp; done) | (simp; omega) | omega) _ | refine Below.alloc ?_ (by first | (simp; done) | (simp; omega) | omega) _ | refine Below.drew ?_))))) ?_; rintro e w1 ⟨rfl, q, rfl⟩)
        exact ⟨⟨m + 1, by omega, by go_num, gw_of_below (by repeat (first | with_reducible exact Below.refl _ _ | with_reducible assumption | refine bgw ?_ (by first | (simp; done) | (simp; omega) | omega) _ | refine Below.setCell ?_ (by first | exact Nat.le_of_not_lt (by assumption) | (simp; done) | (simp; omega) | omega) _ | refine Below.alloc ?_ (by first | (simp; done) | (simp; omega) | omega) _ | refine Below.drew ?_))⟩, by (try go_num); simp [intOf]; (try omega)⟩
      · obtain rfl : m = ps.length := by omega
        have k1 : ¬ (ps.length : Int) < (ps.length : Int) := by omega
        go_wp2_with fail
        go_loopw [12] (fun k wr => ∃ m : Nat, m ≤ qs.length ∧ k = .int .i64 (m : Int) ∧ ∃ p, wr = gw W p)
          (fun k _ => (qs.length - intOf k).toNat)
        case atStart => exact ⟨0, by omega, rfl, ⟨p, rfl⟩⟩
        case round =>
          obtain ⟨m, hm2, rfl, p, rfl⟩ := hrel
          by_cases hlt : m < qs.length
          · have k0 : (0 : Int) ≤ (m : Int) := by omega
            have k1 : (m : Int) < (qs.length : Int) := by omega
            obtain ⟨b, off, hA2, hcc⟩ := pts_open hPB (by omega)
            obtain ⟨c0, c1⟩ := hcc p m hlt
            have cK := cCa qs[m].1 qs[m].2
            rw [hBp.out m hlt] at cK
            subst hA2
            have oc := older_of_cell c0
            clear hcc hAq hBp cCa cCb
            generalize qs[m].1 = a1 at *
            generalize qs[m].2 = a2 at *
            go_wp2_with (go_at_call 12; with_reducible_and_instances refine Calls.mono (gw_at (cK _ (Pts.to hPA (by repeat (first | with_reducible exact Below.refl _ _ | with_reducible assumption | refine bgw ?_ (by first | (simp; done) | (simp; omega) | omega) _ | refine Below.setCell ?_ (by first | exact Nat.le_of_not_lt (by assumption) | (simp; done) | (simp; omega) | omega) _ | refine Below.alloc ?_ (by first | (simp; done) | (simp; omega) | omega) _ | refine Below.drew ?_))))) ?_; rintro e w1 ⟨rfl, q, rfl⟩)
            exact ⟨⟨m + 1, by omega, by go_num, gw_of_below (by repeat (first | with_reducible exact Below.refl _ _ | with_reducible assumption | refine bgw ?_ (by first | (simp; done) | (simp; omega) | omega) _ | refine Below.setCell ?_ (by first | exact Nat.le_of_not_lt (by assumption) | (simp; done) | (simp; omega) | omega) _ | refine Below.alloc ?_ (by first | (simp; done) | (simp; omega) | omega) _ | refine Below.drew ?_))⟩, by (try go_num); simp [intOf]; (try omega)⟩
          · obtain rfl : m = qs.length := by omega
            have k1 : ¬ (qs.length : Int) < (qs.length : Int) := by omega
            have kV2 := blk_gw (p := p) kV
            have okV2 := blk_older kV2
            have ckV2_0 : _ = some _ := blk_cell kV2 0
            have ckV2_1 : _ = some _ := blk_cell kV2 1
            have fkV2_0 := blk_free kV2 0
            have fkV2_1 := blk_free kV2 1
            clear hAq hBp cCa cCb
            cases u
            · go_wp2_with (first | (go_at_call 12; with_reducible_and_instances refine Calls.mono (gw_at (cXa _ (Pts.to hPA (by repeat (first | with_reducible exact Below.refl _ _ | with_reducible assumption | refine bgw ?_ (by first | (simp; done) | (simp; omega) | omega) _ | refine Below.setCell ?_ (by first | exact Nat.le_of_not_lt (by assumption) | (simp; done) | (simp; omega) | omega) _ | refine Below.alloc ?_ (by first | (simp; done) | (simp; omega) | omega) _ | refine Below.drew ?_))))) ?_; rintro e w1 ⟨rfl, q, rfl⟩) | (go_at_call 10; refine Calls.mono (gw_at (e0 _)) ?_; rintro e w1 ⟨rfl, q, rfl⟩))
              go_ret
              exact ⟨rfl, Below.trans hbW (Below.mono (by repeat (first | with_reducible exact Below.refl _ _ | with_reducible assumption | refine bgw ?_ (by first | (simp; done) | (simp; omega) | omega) _ | refine Below.setCell ?_ (by first | exact Nat.le_of_not_lt (by assumption) | (simp; done) | (simp; omega) | omega) _ | refine Below.alloc ?_ (by first | (simp; done) | (simp; omega) | omega) _ | refine Below.drew ?_)) hszW)⟩
            · obtain rfl : v = false := by rcases hxy with h | h; cases h; exact h
              go_wp2_with (first | (go_at_call 12; with_reducible_and_instances refine Calls.mono (gw_at (cXa _ (Pts.to hPA (by repeat (first | with_reducible exact Below.refl _ _ | with_reducible assumption | refine bgw ?_ (by first | (simp; done) | (simp; omega) | omega) _ | refine Below.setCell ?_ (by first | exact Nat.le_of_not_lt (by assumption) | (simp; done) | (simp; omega) | omega) _ | refine Below.alloc ?_ (by first | (simp; done) | (simp; omega) | omega) _ | refine Below.drew ?_))))) ?_; rintro e w1 ⟨rfl, q, rfl⟩) | (go_at_call 12; with_reducible_and_instances refine Calls.mono (gw_at (cXb _ (Pts.to hPB (by repeat (first | with_reducible exact Below.refl _ _ | with_reducible assumption | refine bgw ?_ (by first | (simp; done) | (simp; omega) | omega) _ | refine Below.setCell ?_ (by first | exact Nat.le_of_not_lt (by assumption) | (simp; done) | (simp; omega) | omega) _ | refine Below.alloc ?_ (by first | (simp; done) | (simp; omega) | omega) _ | refine Below.drew ?_))))) ?_; rintro e w1 ⟨rfl, q, rfl⟩) | (go_at_call 10; refine Calls.mono (gw_at (e0 _)) ?_; rintro e w1 ⟨rfl, q, rfl⟩))
              go_ret
              exact ⟨rfl, Below.trans hbW (Below.mono (by repeat (first | with_reducible exact Below.refl _ _ | with_reducible assumption | refine bgw ?_ (by first | (simp; done) | (simp; omega) | omega) _ | refine Below.setCell ?_ (by first | exact Nat.le_of_not_lt (by assumption) | (simp; done) | (simp; omega) | omega) _ | refine Below.alloc ?_ (by first | (simp; done) | (simp; omega) | omega) _ | refine Below.drew ?_)) hszW)⟩

set_option maxRecDepth 100000 in
set_option maxHeartbeats 16000000 in
theorem walk_SATMoreVertices (A : Option Addr) (cap : Nat) (ps : List (Int × Int)) (B_ : Option Addr) (cap2 : Nat) (qs : List (Int × Int)) (C : Option Addr) (cap3 : Nat) (rs : List (Int × Int)) (w : World) (hp : Pts w A ps) (hl : ps.length ≤ cap) (hc : cap ≤ maxLen) (hq : Pts w B_ qs) (hm : qs.length ≤ cap2) (hc2 : cap2 ≤ maxLen) (hB : B_ = none → cap2 = 0) (hr : Pts w C rs) (hm3 : rs.length ≤ cap3) (hc3 : cap3 ≤ maxLen) (hC : C = none → cap3 = 0) : Calls Try.prog 7 #[.slice A ps.length cap, .slice B_ qs.length cap2, .slice C rs.length cap3] w fun e w' => e = .returned (.bool true) ∧ Below w.heap.size w w' := by
  have e0 := example14_b
  by_cases n1 : (ps.length : Int) < 2
  focus
    go_enter Try.func7, Try.ntmps7
    go_wp2_with (go_at_call 10; refine Calls.mono (gw_at (e0 _)) ?_; rintro e w1 ⟨rfl, q, rfl⟩)
    go_ret
    exact ⟨rfl, (by repeat (first | with_reducible exact Below.refl _ _ | with_reducible assumption | refine bgw ?_ (by first | (simp; done) | (simp; omega) | omega) _ | refine Below.setCell ?_ (by first | exact Nat.le_of_not_lt (by assumption) | (simp; done) | (simp; omega) | omega) _ | refine Below.alloc ?_ (by first | (simp; done) | (simp; omega) | omega) _ | refine Below.drew ?_))⟩
  by_cases n2 : qs.length = 0
  focus
    have b2 : ((qs.length : Int) == 0) = true := by rw [beq_iff_eq]; omega
    clear n2
    go_enter Try.func7, Try.ntmps7
    go_wp2_with (go_at_call 10; refine Calls.mono (gw_at (e0 _)) ?_; rintro e w1 ⟨rfl, q, rfl⟩)
    go_ret
    exact ⟨rfl, (by repeat (first | with_reducible exact Below.refl _ _ | with_reducible assumption | refine bgw ?_ (by first | (simp; done) | (simp; omega) | omega) _ | refine Below.setCell ?_ (by first | exact Nat.le_of_not_lt (by assumption) | (simp; done) | (simp; omega) | omega) _ | refine Below.alloc ?_ (by first | (simp; done) | (simp; omega) | omega) _ | refine Below.drew ?_))⟩
  have b2 : ((qs.length : Int) == 0) = false := by rw [beq_eq_false_iff_ne]; omega
  by_cases n3 : (12 : Int) < (ps.length : Int)
  focus
    clear n2
    go_enter Try.func7, Try.ntmps7
    go_wp2_with (go_at_call 10; refine Calls.mono (gw_at (e0 _)) ?_; rintro e w1 ⟨rfl, q, rfl⟩)
    go_ret
    exact ⟨rfl, (by repeat (first | with_reducible exact Below.refl _ _ | with_reducible assumption | refine bgw ?_ (by first | (simp; done) | (simp; omega) | omega) _ | refine Below.setCell ?_ (by first | exact Nat.le_of_not_lt (by assumption) | (simp; done) | (simp; omega) | omega) _ | refine Below.alloc ?_ (by first | (simp; done) | (simp; omega) | omega) _ | refine Below.drew ?_))⟩
  by_cases n4 : (12 : Int) < (qs.length : Int)
  focus
    clear n2
    go_enter Try.func7, Try.ntmps7
    go_wp2_with (go_at_call 10; refine Calls.mono (gw_at (e0 _)) ?_; rintro e w1 ⟨rfl, q, rfl⟩)
    go_ret
    exact ⟨rfl, (by repeat (first | with_reducible exact Below.refl _ _ | with_reducible assumption | refine bgw ?_ (by first | (simp; done) | (simp; omega) | omega) _ | refine Below.setCell ?_ (by first | exact Nat.le_of_not_lt (by assumption) | (simp; done) | (simp; omega) | omega) _ | refine Below.alloc ?_ (by first | (simp; done) | (simp; omega) | omega) _ | refine Below.drew ?_))⟩
  by_cases n5 : (12 : Int) < (rs.length : Int)
  focus
    clear n2
    go_enter Try.func7, Try.ntmps7
    go_wp2_with (go_at_call 10; refine Calls.mono (gw_at (e0 _)) ?_; rintro e w1 ⟨rfl, q, rfl⟩)
    go_ret
    exact ⟨rfl, (by repeat (first | with_reducible exact Below.refl _ _ | with_reducible assumption | refine bgw ?_ (by first | (simp; done) | (simp; omega) | omega) _ | refine Below.setCell ?_ (by first | exact Nat.le_of_not_lt (by assumption) | (simp; done) | (simp; omega) | omega) _ | refine Below.alloc ?_ (by first | (simp; done) | (simp; omega) | omega) _ | refine Below.drew ?_))⟩
  have f1 := msep_more (a := ps) (b := qs) (c := rs) (by omega) (by omega)
  obtain ⟨f2, f3⟩ := msep_self (a := ps) (by omega)
  have hlT : (qs ++ rs).length ≤ 24 := by simp; omega
  have cM := fun w' h1 h2 => ymsep_b A B_ cap cap2 ps qs (by omega) (by omega) w' h1 h2
  have cT := fun T c w' h1 h2 => ymsep_b A T cap c ps (qs ++ rs) (by omega) (by omega) w' h1 h2
  have cS := fun w' h1 h2 => ymsep_b A A cap cap ps ps (by omega) (by omega) w' h1 h2
  generalize (msep ps qs).1 = i1 at *
  generalize (msep ps qs).2 = s1 at *
  generalize (msep ps (qs ++ rs)).1 = i2 at *
  generalize (msep ps (qs ++ rs)).2 = s2 at *
  generalize (msep ps ps).1 = i3 at *
  generalize (msep ps ps).2 = s3 at *
  obtain ⟨i0, hi, hz0, hz1, hz2⟩ := info_parts info_vec
  have hl2 : qs.length ≤ 12 := by omega
  have hl3 : rs.length ≤ 12 := by omega
  go_enter Try.func7, Try.ntmps7
  go_upto_region 5 with (at_builtin; refine wpList_appQ rfl _ _ 22 rfl w.heap.size 24 i0 (.agg #[.int .i64 0, .int .i64 0]) 16 Try.underlying22 hi hz0 hz1 hz2 rfl _ _ _ rfl (World.ownsRow_nil _ _ _ 2) _ _ _ qs rfl hB rfl (Pts.to hq (by repeat (first | with_reducible exact Below.refl _ _ | with_reducible assumption | refine bgw ?_ (by first | (simp; done) | (simp; omega) | omega) _ | refine Below.setCell ?_ (by first | exact Nat.le_of_not_lt (by assumption) | (simp; done) | (simp; omega) | omega) _ | refine Below.alloc ?_ (by first | (simp; done) | (simp; omega) | omega) _ | refine Below.drew ?_))) (by unfold maxLen; omega) (by omega) (by first | (simp; done) | (simp; omega) | omega) ?_; intro v2 w2 hown2 hb2)
  have hbW2 : Below w.heap.size w w2 := by first | exact hb2 | exact Below.trans (by repeat (first | with_reducible exact Below.refl _ _ | with_reducible assumption | refine bgw ?_ (by first | (simp; done) | (simp; omega) | omega) _ | refine Below.setCell ?_ (by first | exact Nat.le_of_not_lt (by assumption) | (simp; done) | (simp; omega) | omega) _ | refine Below.alloc ?_ (by first | (simp; done) | (simp; omega) | omega) _ | refine Below.drew ?_)) hb2
  have hz2' := hbW2.size
  go_upto_region 6 with (at_builtin; refine wpList_appQ rfl _ _ 22 rfl w.heap.size 24 i0 (.agg #[.int .i64 0, .int .i64 0]) 16 Try.underlying22 hi hz0 hz1 hz2 rfl _ _ _ rfl (owns_below hown2 (by repeat (first | with_reducible exact Below.refl _ _ | with_reducible assumption | refine bgw ?_ (by first | (simp; done) | (simp; omega) | omega) _ | refine Below.setCell ?_ (by first | exact Nat.le_of_not_lt (by assumption) | (simp; done) | (simp; omega) | omega) _ | refine Below.alloc ?_ (by first | (simp; done) | (simp; omega) | omega) _ | refine Below.drew ?_))) _ _ _ rs rfl hC rfl (Pts.to hr (by repeat (first | with_reducible exact Below.refl _ _ | with_reducible assumption | refine bgw ?_ (by first | (simp; done) | (simp; omega) | omega) _ | refine Below.setCell ?_ (by first | exact Nat.le_of_not_lt (by assumption) | (simp; done) | (simp; omega) | omega) _ | refine Below.alloc ?_ (by first | (simp; done) | (simp; omega) | omega) _ | refine Below.drew ?_))) (by unfold maxLen; omega) (by omega) (by first | (simp; done) | (simp; omega) | omega) ?_; intro v3 w3 hown3 hb3)
  have hbW3 : Below w.heap.size w w3 := Below.trans hbW2 hb3
  have hz3' := hbW3.size
  have hown5 : w3.ownsRow w.heap.size 24 2 v3 (0 + qs.length + rs.length) (pv (qs ++ rs)) := by have := hown3; rw [List.nil_append] at this; rw [pv_append]; exact this
  obtain ⟨A3, c3, rfl, -, hle3, hmx3, hP3⟩ := owns_pts hown5
  clear hown2 hown3 hown5 hb2 hb3 hbW2 hz2'
  have cT3 := cT A3 c3
  clear cT
  generalize qs ++ rs = T at *
  go_wp2_with (first
    | (go_at_call 11; with_reducible_and_instances refine Calls.mono (gw_at (cM _ (Pts.to hp (by repeat (first | with_reducible exact Below.refl _ _ | with_reducible assumption | refine bgw ?_ (by first | (simp; done) | (simp; omega) | omega) _ | refine Below.setCell ?_ (by first | exact Nat.le_of_not_lt (by assumption) | (simp; done) | (simp; omega) | omega) _ | refine Below.alloc ?_ (by first | (simp; done) | (simp; omega) | omega) _ | refine Below.drew ?_))) (Pts.to hq (by repeat (first | with_reducible exact Below.refl _ _ | with_reducible assumption | refine bgw ?_ (by first | (simp; done) | (simp; omega) | omega) _ | refine Below.setCell ?_ (by first | exact Nat.le_of_not_lt (by assumption) | (simp; done) | (simp; omega) | omega) _ | refine Below.alloc ?_ (by first | (simp; done) | (simp; omega) | omega) _ | refine Below.drew ?_))))) ?_; rintro e w1 ⟨rfl, q, rfl⟩)
    | (go_at_call 11; with_reducible_and_instances refine Calls.mono (gw_at (cT3 _ (Pts.to hp (by repeat (first | with_reducible exact Below.refl _ _ | with_reducible assumption | refine bgw ?_ (by first | (simp; done) | (simp; omega) | omega) _ | refine Below.setCell ?_ (by first | exact Nat.le_of_not_lt (by assumption) | (simp; done) | (simp; omega) | omega) _ | refine Below.alloc ?_ (by first | (simp; done) | (simp; omega) | omega) _ | refine Below.drew ?_))) (Pts.to hP3 (by repeat (first | with_reducible exact Below.refl _ _ | with_reducible assumption | refine bgw ?_ (by first | (simp; done) | (simp; omega) | omega) _ | refine Below.setCell ?_ (by first | exact Nat.le_of_not_lt (by assumption) | (simp; done) | (simp; omega) | omega) _ | refine Below.alloc ?_ (by first | (simp; done) | (simp; omega) | omega) _ | refine Below.drew ?_))))) ?_; rintro e w1 ⟨rfl, q, rfl⟩)
    | (go_at_call 11; with_reducible_and_instances refine Calls.mono (gw_at (cS _ (Pts.to hp (by repeat (first | with_reducible exact Below.refl _ _ | with_reducible assumption | refine bgw ?_ (by first | (simp; done) | (simp; omega) | omega) _ | refine Below.setCell ?_ (by first | exact Nat.le_of_not_lt (by assumption) | (simp; done) | (simp; omega) | omega) _ | refine Below.alloc ?_ (by first | (simp; done) | (simp; omega) | omega) _ | refine Below.drew ?_))) (Pts.to hp (by repeat (first | with_reducible exact Below.refl _ _ | with_reducible assumption | refine bgw ?_ (by first | (simp; done) | (simp; omega) | omega) _ | refine Below.setCell ?_ (by first | exact Nat.le_of_not_lt (by assumption) | (simp; done) | (simp; omega) | omega) _ | refine Below.alloc ?_ (by first | (simp; done) | (simp; omega) | omega) _ | refine Below.drew ?_))))) ?_; rintro e w1 ⟨rfl, q, rfl⟩)
    | (go_at_call 10; refine Calls.mono (gw_at (e0 _)) ?_; rintro e w1 ⟨rfl, q, rfl⟩))
  go_ret
  exact ⟨rfl, Below.trans hbW3 (by repeat (first | with_reducible exact Below.refl _ _ | with_reducible assumption | refine bgw ?_ (by first | (simp; done) | (simp; omega) | omega) _ | refine Below.setCell ?_ (by first | exact Nat.le_of_not_lt (by assumption) | (simp; done) | (simp; omega) | omega) _ | refine Below.alloc ?_ (by first | (simp; done) | (simp; omega) | omega) _ | refine Below.drew ?_))⟩

end Go.Proofs.Ytodbbaimdbibpaa
