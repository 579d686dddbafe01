/- Laws of chapter 14: SATMaxSeparation, SATIncidentEdge. -/
import Derived.Test.YtodbbaimdbibpaaFixQL
set_option linter.unusedVariables false
namespace Go.Proofs.Ytodbbaimdbibpaa
open Go.RowKit Fx

set_option maxRecDepth 100000 in
set_option maxHeartbeats 16000000 in
theorem walk_SATMaxSeparation (A : Option Addr) (cap : Nat) (ps : List (Int × Int)) (B_ : Option Addr) (cap2 : Nat) (qs : List (Int × Int)) (w : World) (hp : Pts w A ps) (hl : ps.length ≤ cap) (hc : cap ≤ maxLen) (hq : Pts w B_ qs) (hm : qs.length ≤ cap2) (hc2 : cap2 ≤ maxLen) : Calls Try.prog 6 #[.slice A ps.length cap, .slice B_ qs.length cap2] w fun e w' => e = .returned (.bool true) ∧ Below w.heap.size w w' := by
  have e0 := example14_b
  by_cases n1 : (12 : Int) < (ps.length : Int)
  focus
    go_enter Try.func6, Try.ntmps6
    go_wp2_with (go_at_call 10; refine Calls.mono (gw_at (e0 _)) ?_; rintro e w1 ⟨rfl, q, rfl⟩)
    go_ret
    exact ⟨rfl, (by repeat (first | with_reducible exact Below.refl _ _ | with_reducible assumption | refine bgw ?_ (by first | (simp; done) | (simp; omega) | omega) _ | refine Below.setCell ?_ (by first | exact Nat.le_of_not_lt (by assumption) | (simp; done) | (simp; omega) | omega) _ | refine Below.alloc ?_ (by first | (simp; done) | (simp; omega) | omega) _ | refine Below.drew ?_))⟩
  by_cases n2 : (12 : Int) < (qs.length : Int)
  focus
    go_enter Try.func6, Try.ntmps6
    go_wp2_with (go_at_call 10; refine Calls.mono (gw_at (e0 _)) ?_; rintro e w1 ⟨rfl, q, rfl⟩)
    go_ret
    exact ⟨rfl, (by repeat (first | with_reducible exact Below.refl _ _ | with_reducible assumption | refine bgw ?_ (by first | (simp; done) | (simp; omega) | omega) _ | refine Below.setCell ?_ (by first | exact Nat.le_of_not_lt (by assumption) | (simp; done) | (simp; omega) | omega) _ | refine Below.alloc ?_ (by first | (simp; done) | (simp; omega) | omega) _ | refine Below.drew ?_))⟩
  have cM := fun w' h1 h2 => ymsep_b A B_ cap cap2 ps qs (by omega) (by omega) w' h1 h2
  by_cases hn : ps.length < 2 ∨ qs.length = 0
  focus
    rw [msep_none hn] at cM
    dsimp only at cM
    rcases (by omega : (ps.length : Int) < 2 ∨ (¬ (ps.length : Int) < 2 ∧ (qs.length : Int) = 0)) with c | ⟨c, d⟩
    · clear hn
      go_enter Try.func6, Try.ntmps6
      go_wp2_with (first | (go_at_call 11; refine Calls.mono (gw_at (cM _ (Pts.to hp (by repeat (first | with_reducible exact Below.refl _ _ | with_reducible assumption | refine bgw ?_ (by first | (simp; done) | (simp; omega) | omega) _ | refine Below.setCell ?_ (by first | exact Nat.le_of_not_lt (by assumption) | (simp; done) | (simp; omega) | omega) _ | refine Below.alloc ?_ (by first | (simp; done) | (simp; omega) | omega) _ | refine Below.drew ?_))) (Pts.to hq (by repeat (first | with_reducible exact Below.refl _ _ | with_reducible assumption | refine bgw ?_ (by first | (simp; done) | (simp; omega) | omega) _ | refine Below.setCell ?_ (by first | exact Nat.le_of_not_lt (by assumption) | (simp; done) | (simp; omega) | omega) _ | refine Below.alloc ?_ (by first | (simp; done) | (simp; omega) | omega) _ | refine Below.drew ?_))))) ?_; rintro e w1 ⟨rfl, q, rfl⟩) | (go_at_call 10; refine Calls.mono (gw_at (e0 _)) ?_; rintro e w1 ⟨rfl, q, rfl⟩))
      go_ret
      exact ⟨rfl, (by repeat (first | with_reducible exact Below.refl _ _ | with_reducible assumption | refine bgw ?_ (by first | (simp; done) | (simp; omega) | omega) _ | refine Below.setCell ?_ (by first | exact Nat.le_of_not_lt (by assumption) | (simp; done) | (simp; omega) | omega) _ | refine Below.alloc ?_ (by first | (simp; done) | (simp; omega) | omega) _ | refine Below.drew ?_))⟩
    · have d' : ((qs.length : Int) == 0) = true := by rw [beq_iff_eq]; exact d
      clear hn d
      go_enter Try.func6, Try.ntmps6
      go_wp2_with (first | (go_at_call 11; refine Calls.mono (gw_at (cM _ (Pts.to hp (by repeat (first | with_reducible exact Below.refl _ _ | with_reducible assumption | refine bgw ?_ (by first | (simp; done) | (simp; omega) | omega) _ | refine Below.setCell ?_ (by first | exact Nat.le_of_not_lt (by assumption) | (simp; done) | (simp; omega) | omega) _ | refine Below.alloc ?_ (by first | (simp; done) | (simp; omega) | omega) _ | refine Below.drew ?_))) (Pts.to hq (by repeat (first | with_reducible exact Below.refl _ _ | with_reducible assumption | refine bgw ?_ (by first | (simp; done) | (simp; omega) | omega) _ | refine Below.setCell ?_ (by first | exact Nat.le_of_not_lt (by assumption) | (simp; done) | (simp; omega) | omega) _ | refine Below.alloc ?_ (by first | (simp; done) | (simp; omega) | omega) _ | refine Below.drew ?_))))) ?_; rintro e w1 ⟨rfl, q, rfl⟩) | (go_at_call 10; refine Calls.mono (gw_at (e0 _)) ?_; rintro e w1 ⟨rfl, q, rfl⟩))
      go_ret
      exact ⟨rfl, (by repeat (first | with_reducible exact Below.refl _ _ | with_reducible assumption | refine bgw ?_ (by first | (simp; done) | (simp; omega) | omega) _ | refine Below.setCell ?_ (by first | exact Nat.le_of_not_lt (by assumption) | (simp; done) | (simp; omega) | omega) _ | refine Below.alloc ?_ (by first | (simp; done) | (simp; omega) | omega) _ | refine Below.drew ?_))⟩
  have m1 : ¬ (ps.length : Int) < 2 := by omega
  have m2 : ((qs.length : Int) == 0) = false := by rw [beq_eq_false_iff_ne]; omega
  have hQ : 0 < qs.length := by omega
  obtain ⟨j, hj, he, hmax, hfst⟩ := msep_spec (a := ps) (b := qs) (by omega) hQ
  rw [he] at cM
  dsimp only at cM
  have j0 : ¬ (j : Int) < 0 := by omega
  have j1 : ¬ (ps.length : Int) ≤ (j : Int) := by omega
  obtain ⟨L, hL⟩ : ∃ L, sep ps j qs = L := ⟨_, rfl⟩
  rw [hL] at cM hmax hfst
  have hL' : Hid (sep ps j qs = L) := hL
  have hmax' : Hid (∀ i, i < ps.length → sep ps i qs ≤ L) := hmax
  have hfst' : Hid (∀ i, i < j → sep ps i qs < L) := hfst
  have hj' : Hid (j < ps.length) := hj
  clear hn he hL hmax hfst hj
  have cN := fun (i : Nat) w' h => ynor_b A cap ps (i : Int) (by omega) w' h
  have hE : Hid (∀ i, sep ps i qs = sepm ps i qs (qs.length - 1)) := fun _ => rfl
  have h0 : Hid (∀ i, sepm ps i qs 0 = sepD ps i qs 0) := fun _ => rfl
  have hS : Hid (∀ i k, sepm ps i qs (k + 1) = min (sepm ps i qs k) (sepD ps i qs (k + 1))) := fun _ _ => rfl
  have hD : Hid (∀ i k, sepD ps i qs k = dot (eNor ps i).1 (eNor ps i).2 (sub (hp' qs k).1 (hp' ps i).1) (sub (hp' qs k).2 (hp' ps i).2)) := fun _ _ => rfl
  go_enter Try.func6, Try.ntmps6
  go_wp2_with (go_at_call 11; refine Calls.mono (gw_at (cM _ (Pts.to hp (by repeat (first | with_reducible exact Below.refl _ _ | with_reducible assumption | refine bgw ?_ (by first | (simp; done) | (simp; omega) | omega) _ | refine Below.setCell ?_ (by first | exact Nat.le_of_not_lt (by assumption) | (simp; done) | (simp; omega) | omega) _ | refine Below.alloc ?_ (by first | (simp; done) | (simp; omega) | omega) _ | refine Below.drew ?_))) (Pts.to hq (by repeat (first | with_reducible exact Below.refl _ _ | with_reducible assumption | refine bgw ?_ (by first | (simp; done) | (simp; omega) | omega) _ | refine Below.setCell ?_ (by first | exact Nat.le_of_not_lt (by assumption) | (simp; done) | (simp; omega) | omega) _ | refine Below.alloc ?_ (by first | (simp; done) | (simp; omega) | omega) _ | refine Below.drew ?_))))) ?_; rintro e w1 ⟨rfl, q, rfl⟩)
  clear cM
  go_loopw [7] (fun k wr => ∃ i : Nat, i ≤ ps.length ∧ k = .int .i64 (i : Int) ∧ ∃ p, wr = gw w p)
    (fun k _ => (ps.length - intOf k).toNat)
  case atStart => exact ⟨0, by omega, rfl, ⟨_, rfl⟩⟩
  case round =>
    obtain ⟨i, hi, rfl, p, rfl⟩ := hrel
    by_cases hlt : i < ps.length
    rotate_left
    focus
      obtain rfl : i = ps.length := by omega
      have i1 : ¬ (ps.length : Int) < (ps.length : Int) := by omega
      clear hE h0 hS hD hL' hmax' hfst' cN
      go_wp2_with (go_at_call 10; refine Calls.mono (gw_at (e0 _)) ?_; rintro e w1 ⟨rfl, q, rfl⟩)
      go_ret
      exact ⟨rfl, (by repeat (first | with_reducible exact Below.refl _ _ | with_reducible assumption | refine bgw ?_ (by first | (simp; done) | (simp; omega) | omega) _ | refine Below.setCell ?_ (by first | exact Nat.le_of_not_lt (by assumption) | (simp; done) | (simp; omega) | omega) _ | refine Below.alloc ?_ (by first | (simp; done) | (simp; omega) | omega) _ | refine Below.drew ?_))⟩
    have i1 : (i : Int) < (ps.length : Int) := by omega
    have i2 : (0 : Int) ≤ (i : Int) := by omega
    have cNi := cN i
    have hDi : Hid (∀ k, sepD ps i qs k = dot (eNor ps i).1 (eNor ps i).2 (sub (hp' qs k).1 (hp' ps i).1) (sub (hp' qs k).2 (hp' ps i).2)) := hD.out i
    have hEi := hE.out i
    have h0i := h0.out i
    have hSi := hS.out i
    have hmi := hmax'.out i hlt
    have hfi := hfst'.out i
    have hji : i = j → sep ps i qs = L := fun h => by subst h; exact hL'.out
    have hSi' : Hid (∀ k, sepm ps i qs (k + 1) = min (sepm ps i qs k) (sepD ps i qs (k + 1))) := hSi
    have h0i' : Hid (sepm ps i qs 0 = sepD ps i qs 0) := h0i
    have hEi' : Hid (sep ps i qs = sepm ps i qs (qs.length - 1)) := hEi
    have hmi' : Hid (sep ps i qs ≤ L) := hmi
    have hfi' : Hid (i < j → sep ps i qs < L) := hfi
    have hji' : Hid (i = j → sep ps i qs = L) := hji
    clear cN hD hE h0 hS hL' hmax' hfst' hEi h0i hSi hmi hfi hji
    generalize (eNor ps i).1 = a1 at *
    generalize (eNor ps i).2 = a2 at *
    go_wp2_with (go_at_call 14; refine Calls.mono (gw_at (cNi _ (Pts.to hp (by repeat (first | with_reducible exact Below.refl _ _ | with_reducible assumption | refine bgw ?_ (by first | (simp; done) | (simp; omega) | omega) _ | refine Below.setCell ?_ (by first | exact Nat.le_of_not_lt (by assumption) | (simp; done) | (simp; omega) | omega) _ | refine Below.alloc ?_ (by first | (simp; done) | (simp; omega) | omega) _ | refine Below.drew ?_))))) ?_; rintro e w1 ⟨rfl, q, rfl⟩)
    refine wp_named ?_
    intro W hW
    have hbW : Below w.heap.size w W := by rw [hW]; exact (by repeat (first | with_reducible exact Below.refl _ _ | with_reducible assumption | refine bgw ?_ (by first | (simp; done) | (simp; omega) | omega) _ | refine Below.setCell ?_ (by first | exact Nat.le_of_not_lt (by assumption) | (simp; done) | (simp; omega) | omega) _ | refine Below.alloc ?_ (by first | (simp; done) | (simp; omega) | omega) _ | refine Below.drew ?_))
    have kN : blk W (w.heap.size + p.os.size + q.os.size) #[.int .i64 a1, .int .i64 a2] 24 := by rw [hW]; first | exact (by repeat (first | with_reducible exact blk_new _ _ _ | ((with_reducible refine blk_at ?_); (simp; done)) | with_reducible apply blk_alloc | with_reducible apply blk_gw | with_reducible apply blk_drew)) | exact (by apply blk_of; (repeat (first  | with_reducible apply blk_drew | with_reducible apply blk_gw | with_reducible apply blk_alloc | with_reducible apply blk_set | ((with_reducible apply blk_other); focus omega))); (first | rfl | simp))
    clear hW cNi
    generalize w.heap.size + p.os.size + q.os.size = BN at *
    have hA : Pts W A ps := Pts.to hp hbW
    have hB : Pts W B_ qs := Pts.to hq hbW
    obtain ⟨b, off, rfl, hcA⟩ := pts_open hA (by omega)
    obtain ⟨b', off', rfl, hcB⟩ := pts_open hB (by omega)
    have hcI := fun p => hcA p i hlt
    rw [hp_get hlt] at hDi
    clear hcA
    generalize ps[i].1 = ax at *
    generalize ps[i].2 = ay at *
    have hszW := hbW.size
    go_loopw [9, 10] (fun s k wx => ∃ m : Nat, m ≤ qs.length ∧ k = .int .i64 (m : Int) ∧ s = .int .i64 (if m = 0 then 0 else sepm ps i qs (m - 1)) ∧ ∃ p, wx = gw W p)
      (fun _ k _ => (qs.length - intOf k).toNat)
    case atStart => exact ⟨0, by omega, rfl, by simp, ⟨⟨W.drawn, #[]⟩, (gw_zero W).symm⟩⟩
    case round =>
      obtain ⟨m, hm2, rfl, rfl, p, rfl⟩ := hrel
      by_cases hlm : m < qs.length
      · have x0 : (0 : Int) ≤ (m : Int) := by omega
        have x1 : (m : Int) < (qs.length : Int) := by omega
        obtain ⟨c0, c1⟩ := hcB p m hlm
        obtain ⟨e0', e1'⟩ := hcI p
        have oc := older_of_cell c0
        have oe := older_of_cell e0'
        have kN2 := blk_gw (p := p) kN
        have okN2 := blk_older kN2
        have ckN2_0 : _ = some _ := blk_cell kN2 0
        have ckN2_1 : _ = some _ := blk_cell kN2 1
        have fkN2_0 := blk_free kN2 0
        have fkN2_1 := blk_free kN2 1
        have hDm := hDi.out m
        rw [hp_get hlm] at hDm
        have hSm : 1 ≤ m → Hid (sepm ps i qs (m + 1 - 1) = min (sepm ps i qs (m - 1)) (sepD ps i qs m)) := fun h => by
          have := hSi'.out (m - 1); rw [show m - 1 + 1 = m from by omega] at this; exact this
        have hS0 : m = 0 → Hid (sepm ps i qs (m + 1 - 1) = sepD ps i qs m) := fun h => by subst h; exact h0i'.out
        clear hDi hSi' h0i' hEi' hmi' hfi' hji' hcB hcI
        generalize qs[m].1 = qx at *
        generalize qs[m].2 = qy at *
        by_cases hm0 : m = 0
        · have hS1 := hS0 hm0
          rw [hDm] at hS1
          have b0 : ((m : Int) == 0) = true := by rw [beq_iff_eq]; omega
          rw [if_pos hm0]
          clear hS0 hSm hm0 hDm
          go_upto_region 16 with fail
          refine wp_region_gw (by kernel_rfl) (by kernel_rfl) ?_
          repeat (go_big_quiet_step ((first | (go_at_call 10; exact gw_call (example14_b _)) | (go_at_call 14; exact gw_call (cN _ (Pts.to hp (by repeat (first | with_reducible exact Below.refl _ _ | with_reducible assumption | refine bgw ?_ (by first | (simp; done) | (simp; omega) | omega) _ | refine Below.setCell ?_ (by first | exact Nat.le_of_not_lt (by assumption) | (simp; done) | (simp; omega) | omega) _ | refine Below.alloc ?_ (by first | (simp; done) | (simp; omega) | omega) _ | refine Below.drew ?_))))) | (go_at_call 21; exact gw_call (rvsub_b _ _ _ _ _)) | (go_at_call 20; exact gw_call (rdot_b _ _ _ _ _)))))
          refine wpQuiet_nil ?_
          intro w1 hw1
          obtain ⟨q, rfl⟩ := hw1
          go_wp2_with fail
          exact ⟨⟨m + 1, by omega, by go_num, by rw [if_neg (by omega), hS1.out], gw_of_below (by repeat (first | with_reducible exact Below.refl _ _ | with_reducible assumption | refine bgw ?_ (by first | (simp; done) | (simp; omega) | omega) _ | refine Below.setCell ?_ (by first | exact Nat.le_of_not_lt (by assumption) | (simp; done) | (simp; omega) | omega) _ | refine Below.alloc ?_ (by first | (simp; done) | (simp; omega) | omega) _ | refine Below.drew ?_))⟩, by (try go_num); simp [intOf]; (try omega)⟩
        · have hS1 := hSm (by omega)
          rw [hDm] at hS1
          have b0 : ((m : Int) == 0) = false := by rw [beq_eq_false_iff_ne]; omega
          rw [if_neg hm0]
          clear hS0 hSm hm0 hDm
          generalize sepm ps i qs (m - 1) = S at *
          by_cases hd : dot a1 a2 (sub qx ax) (sub qy ay) < S
          · have hd' := decide_eq_true hd
            have hS2 : Hid (sepm ps i qs (m + 1 - 1) = dot a1 a2 (sub qx ax) (sub qy ay)) := hS1.out.trans (by omega)
            clear hS1
            go_upto_region 16 with fail
            refine wp_region_gw (by kernel_rfl) (by kernel_rfl) ?_
            repeat (go_big_quiet_step ((first | (go_at_call 10; exact gw_call (example14_b _)) | (go_at_call 14; exact gw_call (cN _ (Pts.to hp (by repeat (first | with_reducible exact Below.refl _ _ | with_reducible assumption | refine bgw ?_ (by first | (simp; done) | (simp; omega) | omega) _ | refine Below.setCell ?_ (by first | exact Nat.le_of_not_lt (by assumption) | (simp; done) | (simp; omega) | omega) _ | refine Below.alloc ?_ (by first | (simp; done) | (simp; omega) | omega) _ | refine Below.drew ?_))))) | (go_at_call 21; exact gw_call (rvsub_b _ _ _ _ _)) | (go_at_call 20; exact gw_call (rdot_b _ _ _ _ _)))))
            refine wpQuiet_nil ?_
            intro w1 hw1
            obtain ⟨q, rfl⟩ := hw1
            go_wp2_with fail
            exact ⟨⟨m + 1, by omega, by go_num, by rw [if_neg (by omega), hS2.out], gw_of_below (by repeat (first | with_reducible exact Below.refl _ _ | with_reducible assumption | refine bgw ?_ (by first | (simp; done) | (simp; omega) | omega) _ | refine Below.setCell ?_ (by first | exact Nat.le_of_not_lt (by assumption) | (simp; done) | (simp; omega) | omega) _ | refine Below.alloc ?_ (by first | (simp; done) | (simp; omega) | omega) _ | refine Below.drew ?_))⟩, by (try go_num); simp [intOf]; (try omega)⟩
          · have hd' := decide_eq_false hd
            have hS2 : Hid (sepm ps i qs (m + 1 - 1) = S) := hS1.out.trans (by omega)
            clear hS1
            go_upto_region 16 with fail
            refine wp_region_gw (by kernel_rfl) (by kernel_rfl) ?_
            repeat (go_big_quiet_step ((first | (go_at_call 10; exact gw_call (example14_b _)) | (go_at_call 14; exact gw_call (cN _ (Pts.to hp (by repeat (first | with_reducible exact Below.refl _ _ | with_reducible assumption | refine bgw ?_ (by first | (simp; done) | (simp; omega) | omega) _ | refine Below.setCell ?_ (by first | exact Nat.le_of_not_lt (by assumption) | (simp; done) | (simp; omega) | omega) _ | refine Below.alloc ?_ (by first | (simp; done) | (simp; omega) | omega) _ | refine Below.drew ?_))))) | (go_at_call 21; exact gw_call (rvsub_b _ _ _ _ _)) | (go_at_call 20; exact gw_call (rdot_b _ _ _ _ _)))))
            refine wpQuiet_nil ?_
            intro w1 hw1
            obtain ⟨q, rfl⟩ := hw1
            go_wp2_with fail
            exact ⟨⟨m + 1, by omega, by go_num, by rw [if_neg (by omega), hS2.out], gw_of_below (by repeat (first | with_reducible exact Below.refl _ _ | with_reducible assumption | refine bgw ?_ (by first | (simp; done) | (simp; omega) | omega) _ | refine Below.setCell ?_ (by first | exact Nat.le_of_not_lt (by assumption) | (simp; done) | (simp; omega) | omega) _ | refine Below.alloc ?_ (by first | (simp; done) | (simp; omega) | omega) _ | refine Below.drew ?_))⟩, by (try go_num); simp [intOf]; (try omega)⟩
      · obtain rfl : m = qs.length := by omega
        have x1 : ¬ (qs.length : Int) < (qs.length : Int) := by omega
        rw [if_neg (by omega), ← hEi'.out]
        clear hDi hSi' h0i' hEi' hcB hcI
        generalize sep ps i qs = V at *
        have v1 : ¬ L < V := by have := hmi'.out; omega
        rcases (by omega : i < j ∨ i = j ∨ j < i) with c | c | c
        · have v2 : V < L := hfi'.out c
          have v3 : (V == L) = false := by rw [beq_eq_false_iff_ne]; omega
          have v4 : ((i : Int) == (j : Int)) = false := by rw [beq_eq_false_iff_ne]; omega
          have v5 : (i : Int) < (j : Int) := by omega
          clear hmi' hfi' hji' c v2
          go_wp2_with fail
          exact ⟨⟨i + 1, by omega, by go_num, gw_of_below (Below.trans hbW ((below_gw W _).mono hbW.size))⟩, by (try go_num); simp [intOf]; (try omega)⟩
        · have v2 : V = L := hji'.out c
          have v3 : (V != L) = false := by rw [bne_eq_false_iff_eq]; exact v2
          have v4 : ((i : Int) == (j : Int)) = true := by rw [beq_iff_eq]; omega
          have v5 : ¬ (i : Int) < (j : Int) := by omega
          clear hmi' hfi' hji' c v2
          go_wp2_with fail
          exact ⟨⟨i + 1, by omega, by go_num, gw_of_below (Below.trans hbW ((below_gw W _).mono hbW.size))⟩, by (try go_num); simp [intOf]; (try omega)⟩
        · have v4 : ((i : Int) == (j : Int)) = false := by rw [beq_eq_false_iff_ne]; omega
          have v5 : ¬ (i : Int) < (j : Int) := by omega
          clear hmi' hfi' hji' c
          go_wp2_with fail
          exact ⟨⟨i + 1, by omega, by go_num, gw_of_below (Below.trans hbW ((below_gw W _).mono hbW.size))⟩, by (try go_num); simp [intOf]; (try omega)⟩

set_option maxHeartbeats 8000000 in
theorem walk_SATIncidentEdge (A : Option Addr) (cap : Nat) (ps : List (Int × Int)) (x y : Int) (w : World) (hp : Pts w A ps) (hl : ps.length ≤ cap) (hc : cap ≤ maxLen) : Calls Try.prog 8 #[.slice A ps.length cap, .agg #[.int .i64 x, .int .i64 y]] w fun e w' => e = .returned (.bool true) ∧ Below w.heap.size w w' := by
  have e0 := example14_b
  by_cases n1 : (20 : Int) < (ps.length : Int)
  focus
    go_enter Try.func8, Try.ntmps8
    go_wp2_with (go_at_call 10; refine Calls.mono (gw_at (e0 _)) ?_; rintro e w1 ⟨rfl, q, rfl⟩)
    go_ret
    exact ⟨rfl, (by repeat (first | with_reducible exact Below.refl _ _ | with_reducible assumption | refine bgw ?_ (by first | (simp; done) | (simp; omega) | omega) _ | refine Below.setCell ?_ (by first | exact Nat.le_of_not_lt (by assumption) | (simp; done) | (simp; omega) | omega) _ | refine Below.alloc ?_ (by first | (simp; done) | (simp; omega) | omega) _ | refine Below.drew ?_))⟩
  have cI := fun w' h => yinc_b A cap ps x y (by omega) w' h
  by_cases hn : ps.length < 2
  focus
    rw [inc_none x y hn] at cI
    have c : (ps.length : Int) < 2 := by omega
    clear hn
    go_enter Try.func8, Try.ntmps8
    go_wp2_with (first | (go_at_call 18; refine Calls.mono (gw_at (cI _ (Pts.to hp (by repeat (first | with_reducible exact Below.refl _ _ | with_reducible assumption | refine bgw ?_ (by first | (simp; done) | (simp; omega) | omega) _ | refine Below.setCell ?_ (by first | exact Nat.le_of_not_lt (by assumption) | (simp; done) | (simp; omega) | omega) _ | refine Below.alloc ?_ (by first | (simp; done) | (simp; omega) | omega) _ | refine Below.drew ?_))))) ?_; rintro e w1 ⟨rfl, q, rfl⟩) | (go_at_call 10; refine Calls.mono (gw_at (e0 _)) ?_; rintro e w1 ⟨rfl, q, rfl⟩))
    go_ret
    exact ⟨rfl, (by repeat (first | with_reducible exact Below.refl _ _ | with_reducible assumption | refine bgw ?_ (by first | (simp; done) | (simp; omega) | omega) _ | refine Below.setCell ?_ (by first | exact Nat.le_of_not_lt (by assumption) | (simp; done) | (simp; omega) | omega) _ | refine Below.alloc ?_ (by first | (simp; done) | (simp; omega) | omega) _ | refine Below.drew ?_))⟩
  have m1 : ¬ (ps.length : Int) < 2 := by omega
  obtain ⟨j, hj, he, hmin, hfst⟩ := inc_spec (b := ps) x y (by omega)
  rw [he] at cI
  have j0 : ¬ (j : Int) < 0 := by omega
  have j1 : ¬ (ps.length : Int) ≤ (j : Int) := by omega
  have cN := fun (i : Nat) w' h => ynor_b A cap ps (i : Int) (by omega) w' h
  have hD : Hid (∀ i : Nat, incD ps x y i = dot (eNor ps i).1 (eNor ps i).2 x y) := fun _ => rfl
  have cNj := cN j
  have hDj := hD.out j
  obtain ⟨L, hL⟩ : ∃ L, incD ps x y j = L := ⟨_, rfl⟩
  rw [hL] at hmin hfst hDj
  have hmin' : Hid (∀ i, i < ps.length → L ≤ incD ps x y i) := hmin
  have hfst' : Hid (∀ i, i < j → L < incD ps x y i) := hfst
  clear hn he hL hmin hfst hj
  generalize (eNor ps (j : Int)).1 = a1 at *
  generalize (eNor ps (j : Int)).2 = a2 at *
  go_enter Try.func8, Try.ntmps8
  go_upto_region 8 with (go_at_call 18; refine Calls.mono (gw_at (cI _ (Pts.to hp (by repeat (first | with_reducible exact Below.refl _ _ | with_reducible assumption | refine bgw ?_ (by first | (simp; done) | (simp; omega) | omega) _ | refine Below.setCell ?_ (by first | exact Nat.le_of_not_lt (by assumption) | (simp; done) | (simp; omega) | omega) _ | refine Below.alloc ?_ (by first | (simp; done) | (simp; omega) | omega) _ | refine Below.drew ?_))))) ?_; rintro e w1 ⟨rfl, q, rfl⟩)
  refine wp_region_gw (by kernel_rfl) (by kernel_rfl) ?_
  repeat (go_big_quiet_step (first | (go_at_call 14; exact gw_call (cNj _ (Pts.to hp (by repeat (first | with_reducible exact Below.refl _ _ | with_reducible assumption | refine bgw ?_ (by first | (simp; done) | (simp; omega) | omega) _ | refine Below.setCell ?_ (by first | exact Nat.le_of_not_lt (by assumption) | (simp; done) | (simp; omega) | omega) _ | refine Below.alloc ?_ (by first | (simp; done) | (simp; omega) | omega) _ | refine Below.drew ?_))))) | (go_at_call 20; exact gw_call (rdot_b _ _ _ _ _))))
  refine wpQuiet_nil ?_
  intro w1 hw1
  obtain ⟨q2, rfl⟩ := hw1
  rw [← hDj]
  clear hDj cNj cI
  go_wp2_with fail
  refine wp_named ?_
  intro W hW
  have hbW : Below w.heap.size w W := by rw [hW]; exact (by repeat (first | with_reducible exact Below.refl _ _ | with_reducible assumption | refine bgw ?_ (by first | (simp; done) | (simp; omega) | omega) _ | refine Below.setCell ?_ (by first | exact Nat.le_of_not_lt (by assumption) | (simp; done) | (simp; omega) | omega) _ | refine Below.alloc ?_ (by first | (simp; done) | (simp; omega) | omega) _ | refine Below.drew ?_))
  have kV : blk W w.heap.size #[.int .i64 x, .int .i64 y] 24 := by rw [hW]; first | exact (by repeat (first | with_reducible exact blk_new _ _ _ | ((with_reducible refine blk_at ?_); (simp; done)) | with_reducible apply blk_alloc | with_reducible apply blk_gw | with_reducible apply blk_drew)) | exact (by apply blk_of; (repeat (first  | with_reducible apply blk_drew | with_reducible apply blk_gw | with_reducible apply blk_alloc | with_reducible apply blk_set | ((with_reducible apply blk_other); focus omega))); (first | rfl | simp))
  clear hW
  have hA : Pts W A ps := Pts.to hp hbW
  have hszW := hbW.size
  go_loopw [7] (fun k wr => ∃ m : Nat, m ≤ ps.length ∧ k = .int .i64 (m : Int) ∧ ∃ p, wr = gw W p)
    (fun k _ => (ps.length - intOf k).toNat)
  case atStart => exact ⟨0, by omega, rfl, ⟨⟨W.drawn, #[]⟩, (gw_zero W).symm⟩⟩
  case round =>
    obtain ⟨m, hm2, rfl, p, rfl⟩ := hrel
    by_cases hlt : m < ps.length
    rotate_left
    focus
      obtain rfl : m = ps.length := by omega
      have i1 : ¬ (ps.length : Int) < (ps.length : Int) := by omega
      clear hmin' hfst' hD cN
      go_wp2_with (go_at_call 10; refine Calls.mono (gw_at (e0 _)) ?_; rintro e w1 ⟨rfl, q, rfl⟩)
      go_ret
      exact ⟨rfl, Below.trans hbW (Below.mono (by repeat (first | with_reducible exact Below.refl _ _ | with_reducible assumption | refine bgw ?_ (by first | (simp; done) | (simp; omega) | omega) _ | refine Below.setCell ?_ (by first | exact Nat.le_of_not_lt (by assumption) | (simp; done) | (simp; omega) | omega) _ | refine Below.alloc ?_ (by first | (simp; done) | (simp; omega) | omega) _ | refine Below.drew ?_)) hszW)⟩
    have i1 : (m : Int) < (ps.length : Int) := by omega
    have i2 : (0 : Int) ≤ (m : Int) := by omega
    have cM := cN m
    have hDm := hD.out m
    have kV2 := blk_gw (p := p) kV
    have okV2 := blk_older kV2
    have ckV2_0 : _ = some _ := blk_cell kV2 0
    have ckV2_1 : _ = some _ := blk_cell kV2 1
    have fkV2_0 := blk_free kV2 0
    have fkV2_1 := blk_free kV2 1
    have hmm := hmin'.out m hlt
    have hff : Hid (m < j → L < incD ps x y m) := hfst'.out m
    clear hmin' hfst' hD cN
    generalize (eNor ps (m : Int)).1 = b1 at *
    generalize (eNor ps (m : Int)).2 = b2 at *
    generalize incD ps x y m = D at *
    have v1 : ¬ D < L := by omega
    by_cases c : m < j
    · have v2 : L < D := hff.out c
      have v3 : (D == L) = false := by rw [beq_eq_false_iff_ne]; omega
      have v5 : (m : Int) < (j : Int) := by omega
      clear hff hmm c v2
      go_upto_region 12 with fail
      refine wp_region_gw (by kernel_rfl) (by kernel_rfl) ?_
      repeat (go_big_quiet_step (first | (go_at_call 14; exact gw_call (cM _ (Pts.to hA (by repeat (first | with_reducible exact Below.refl _ _ | with_reducible assumption | refine bgw ?_ (by first | (simp; done) | (simp; omega) | omega) _ | refine Below.setCell ?_ (by first | exact Nat.le_of_not_lt (by assumption) | (simp; done) | (simp; omega) | omega) _ | refine Below.alloc ?_ (by first | (simp; done) | (simp; omega) | omega) _ | refine Below.drew ?_))))) | (go_at_call 20; exact gw_call (rdot_b _ _ _ _ _))))
      refine wpQuiet_nil ?_
      intro w1 hw1
      obtain ⟨q3, rfl⟩ := hw1
      rw [← hDm]
      clear hDm cM
      go_wp2_with fail
      exact ⟨⟨m + 1, by omega, by go_num, gw_of_below (by repeat (first | with_reducible exact Below.refl _ _ | with_reducible assumption | refine bgw ?_ (by first | (simp; done) | (simp; omega) | omega) _ | refine Below.setCell ?_ (by first | exact Nat.le_of_not_lt (by assumption) | (simp; done) | (simp; omega) | omega) _ | refine Below.alloc ?_ (by first | (simp; done) | (simp; omega) | omega) _ | refine Below.drew ?_))⟩, by (try go_num); simp [intOf]; (try omega)⟩
    · have v5 : ¬ (m : Int) < (j : Int) := by omega
      clear hff hmm c
      go_upto_region 12 with fail
      refine wp_region_gw (by kernel_rfl) (by kernel_rfl) ?_
      repeat (go_big_quiet_step (first | (go_at_call 14; exact gw_call (cM _ (Pts.to hA (by repeat (first | with_reducible exact Below.refl _ _ | with_reducible assumption | refine bgw ?_ (by first | (simp; done) | (simp; omega) | omega) _ | refine Below.setCell ?_ (by first | exact Nat.le_of_not_lt (by assumption) | (simp; done) | (simp; omega) | omega) _ | refine Below.alloc ?_ (by first | (simp; done) | (simp; omega) | omega) _ | refine Below.drew ?_))))) | (go_at_call 20; exact gw_call (rdot_b _ _ _ _ _))))
      refine wpQuiet_nil ?_
      intro w1 hw1
      obtain ⟨q3, rfl⟩ := hw1
      rw [← hDm]
      clear hDm cM
      go_wp2_with fail
      exact ⟨⟨m + 1, by omega, by go_num, gw_of_below (by repeat (first | with_reducible exact Below.refl _ _ | with_reducible assumption | refine bgw ?_ (by first | (simp; done) | (simp; omega) | omega) _ | refine Below.setCell ?_ (by first | exact Nat.le_of_not_lt (by assumption) | (simp; done) | (simp; omega) | omega) _ | refine Below.alloc ?_ (by first | (simp; done) | (simp; omega) | omega) _ | refine Below.drew ?_))⟩, by (try go_num); simp [intOf]; (try omega)⟩

end Go.Proofs.Ytodbbaimdbibpaa
