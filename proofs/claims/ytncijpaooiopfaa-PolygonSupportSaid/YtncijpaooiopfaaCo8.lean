/- Contracts of the reference of chapter 11, continued: nextCorner.
Contracts of the reference of chapter 11, continued: ends.
Own rows of points: a literal, one element appended, what lies beside it. Functions of the convex hull.
Contracts of the reference of chapter 11, continued: ConvexHull. -/
import Derived.Test.YtncijpaooiopfaaCo7
import Derived.Maps.AppendAt
import Derived.OwnWalk

set_option linter.unusedVariables false
namespace Go.Proofs.Ytncijpaooiopfaa
open Go.RowKit Fx

def sideP (p q r : Pt) : Prop := 0 < dt p q r ∨ (dt p q r = 0 ∧ d2 p r ≤ d2 p q)
theorem nx_true {S : List Pt} {p q : Pt} : nxOK S p q = true ↔ q ≠ p ∧ ∀ j (h : j < S.length), sideP p q S[j] := by
  unfold nxOK sideP
  simp only [Bool.and_eq_true, decide_eq_true_eq, List.all_eq_true, Bool.or_eq_true]
  constructor
  · rintro ⟨h1, h2⟩; exact ⟨h1, fun j h => h2 _ (List.getElem_mem h)⟩
  · rintro ⟨h1, h2⟩; exact ⟨h1, fun r hr => by obtain ⟨j, hj, rfl⟩ := List.mem_iff_getElem.1 hr; exact h2 j hj⟩
theorem nxt_first {S : List Pt} {p : Pt} {k : Nat} (hk : k < S.length) (h0 : ∀ j (h : j < S.length), j < k → nxOK S p S[j] = false) (h1 : nxOK S p S[k] = true) : nxt S p = S[k] := by
  unfold nxt
  have : S.find? (nxOK S p) = some S[k] := List.find?_eq_some_iff_getElem.2 ⟨h1, k, hk, rfl, fun j hj => by rw [h0 j (by omega) hj]; rfl⟩
  rw [this]; rfl
theorem nxt_none {S : List Pt} {p : Pt} (h0 : ∀ j (h : j < S.length), nxOK S p S[j] = false) : nxt S p = p := by
  unfold nxt
  have : S.find? (nxOK S p) = none := List.find?_eq_none.2 fun x hx => by obtain ⟨j, hj, rfl⟩ := List.mem_iff_getElem.1 hx; rw [h0 j hj]; simp
  rw [this]; rfl
theorem side_iff {p q r : Pt} (hp : inrP p) (hq : inrP q) (hr : inrP r) : (or3 p q r = 1 → sideP p q r) ∧ (or3 p q r = 0 → (sideP p q r ↔ dist2 p.1 p.2 r.1 r.2 ≤ dist2 p.1 p.2 q.1 q.2)) ∧ (or3 p q r ≠ 1 → or3 p q r ≠ 0 → ¬ sideP p q r) := by
  rw [or3_dt hp hq hr, dist2_d2 hp hr, dist2_d2 hp hq]
  unfold sideP
  generalize dt p q r = n
  unfold sgn
  split
  · simp; omega
  · split
    · simp; omega
    · simp; omega

set_option maxRecDepth 100000 in
set_option maxHeartbeats 8000000 in
theorem rnxt_b (A : Option Addr) (cap : Nat) (ps : List (Int × Int)) (px py : Int) (hl : ps.length ≤ 4611686018427387904) (hin : ∀ q ∈ ps, inrP q) (hpi : inrP (px, py)) (w : World) (ha : Pts w A ps) : Calls Try.prog 48 #[.slice A ps.length cap, .agg #[.int .i64 px, .int .i64 py]] w fun e w' => e = .returned (.agg #[.int .i64 (nxt ps (px, py)).1, .int .i64 (nxt ps (px, py)).2]) ∧ Below w.heap.size w w' := by
  obtain ⟨U, V', hUV⟩ : ∃ U V', Hid (nxt ps (px, py) = (U, V')) := ⟨_, _, rfl⟩
  rw [hUV.out]
  dsimp only
  have hin2 : Hid (∀ q ∈ ps, inrP q) := hin
  have hpi2 : Hid (inrP (px, py)) := hpi
  clear hin hpi
  go_enter Try.func48, Try.ntmps48
  go_wp2_with fail
  refine wp_named ?_
  intro W hW
  have kP : blk W w.heap.size #[.int .i64 px, .int .i64 py] 27 := by rw [hW]; exact (by repeat (first | with_reducible exact blk_new _ _ _ | ((with_reducible refine blk_at ?_); (simp; done)) | with_reducible apply blk_alloc | with_reducible apply blk_gw | with_reducible apply blk_drew))
  have kR : blk W (w.heap.size + 1) #[.int .i64 0, .int .i64 0] 27 := by rw [hW]; exact (by repeat (first | with_reducible exact blk_new _ _ _ | ((with_reducible refine blk_at ?_); (simp; done)) | with_reducible apply blk_alloc | with_reducible apply blk_gw | with_reducible apply blk_drew))
  have hbW : Below w.heap.size w W := by rw [hW]; exact (by repeat (first | with_reducible exact Below.refl _ _ | with_reducible assumption | refine bgw ?_ (by first | (simp; done) | (simp; omega) | omega) _ | refine Below.setCell ?_ (by first | exact Nat.le_of_not_lt (by assumption) | (simp; done) | (simp; omega) | omega) _ | refine Below.alloc ?_ (by first | (simp; done) | (simp; omega) | omega) _ | refine Below.drew ?_))
  have hzW : w.heap.size + 1 < W.heap.size := by rw [hW]; simp
  clear hW
  have hcell2 : ∀ w' (i : Nat) (h : i < ps.length), Below W.heap.size W w' → ∃ b off, A = some ⟨b, off, none⟩ ∧ w'.cell? ⟨b, off + i * 2, none⟩ = some (.int .i64 ps[i].1) ∧ w'.cell? ⟨b, off + i * 2 + 1, none⟩ = some (.int .i64 ps[i].2) := fun w' i h hb => by
    obtain ⟨b, off, e, hc⟩ := pts_open0 (Pts.to ha (Below.trans hbW (hb.mono hbW.size))) (by omega)
    exact ⟨b, off, e, hc i h⟩
  go_loopw [5] (fun i wr => ∃ k : Nat, k ≤ ps.length ∧ i = .int .i64 (k : Int) ∧ (∀ j (h : j < ps.length), j < k → nxOK ps (px, py) ps[j] = false) ∧ ∃ p, wr = gw W p)
    (fun i _ => (ps.length - intOf i).toNat)
  case atStart => exact ⟨0, by omega, rfl, by omega, ⟨⟨W.drawn, #[]⟩, (gw_zero W).symm⟩⟩
  case round =>
    obtain ⟨k, hk, rfl, hall, p, rfl⟩ := hrel
    have hszW := hbW.size
    have kP2 := blk_gw (p := p) kP
    have kR2 := blk_gw (p := p) kR
    have okP2 := blk_older kP2
    have ckP2_0 : _ = some _ := blk_cell kP2 0
    have ckP2_1 : _ = some _ := blk_cell kP2 1
    have fkP2_0 := blk_free kP2 0
    have fkP2_1 := blk_free kP2 1
    have okR2 := blk_older kR2
    have ckR2_0 : _ = some _ := blk_cell kR2 0
    have ckR2_1 : _ = some _ := blk_cell kR2 1
    have fkR2_0 := blk_free kR2 0
    have fkR2_1 := blk_free kR2 1
    by_cases hlt : k < ps.length
    · have i0 : (0 : Int) ≤ (k : Int) := by omega
      have i1 : (k : Int) < (ps.length : Int) := by omega
      obtain ⟨b, off, rfl, d0, d1⟩ := hcell2 _ k hlt (below_gw W p)
      have ob := older_of_cell d0
      have hb0 : Below W.heap.size W (gw W p) := below_gw W p
      have hcellB : ∀ w', Below W.heap.size W w' → Below W.heap.size W w' ∧ w'.cell? ⟨b, off + k * 2, none⟩ = some (.int .i64 ps[k].1) ∧ w'.cell? ⟨b, off + k * 2 + 1, none⟩ = some (.int .i64 ps[k].2) ∧ w'.cell? ⟨w.heap.size, 0, none⟩ = some (.int .i64 px) ∧ w'.cell? ⟨w.heap.size, 1, none⟩ = some (.int .i64 py) := fun w' h => by
        obtain ⟨b', off', e, e0, e1⟩ := hcell2 w' k hlt h
        cases e
        obtain ⟨r, rfl⟩ := gw_of_below h
        have hk := blk_gw (p := r) kP
        exact ⟨h, e0, e1, blk_cell hk 0, blk_cell hk 1⟩
      have hne : Hid (ps[k] = (px, py) ↔ (ps[k].1 = px ∧ ps[k].2 = py)) := Prod.ext_iff
      obtain ⟨xk, hxk⟩ : ∃ x, Hid (ps[k].1 = x) := ⟨ps[k].1, rfl⟩
      obtain ⟨yk, hyk⟩ : ∃ x, Hid (ps[k].2 = x) := ⟨ps[k].2, rfl⟩
      rw [hxk.out] at hcellB d0 hne
      rw [hyk.out] at hcellB d1 hne
      obtain ⟨K, hK⟩ : ∃ K, Hid (K = !decide (ps[k] = (px, py))) := ⟨!decide (ps[k] = (px, py)), rfl⟩
      have hszP : W.heap.size ≤ (gw W p).heap.size := by simp
      go_upto_region 4 with fail
      generalize hV : gw W p = V at *
      clear hV
      go_cut [6, 7] (fun q ok wx => ∃ E : Nat, q = .pointer (some ⟨E, 0, none⟩) ∧ ok = .bool K ∧ blk wx E #[.int .i64 xk, .int .i64 yk] 27 ∧ Below W.heap.size W wx)
      case first =>
        by_cases c1 : xk = px
        · by_cases c2 : yk = py
          · obtain rfl : K = false := by rw [hK.out, decide_eq_true (hne.out.2 ⟨c1, c2⟩)]; rfl
            subst c1 c2
            go_region_held3 (fun w' => Below W.heap.size W w' ∧ w'.cell? ⟨b, off + k * 2, none⟩ = some (.int .i64 xk) ∧ w'.cell? ⟨b, off + k * 2 + 1, none⟩ = some (.int .i64 yk) ∧ w'.cell? ⟨w.heap.size, 0, none⟩ = some (.int .i64 xk) ∧ w'.cell? ⟨w.heap.size, 1, none⟩ = some (.int .i64 yk)) (first | (refine hcellB _ ?_; exact (by repeat (first | with_reducible exact Below.refl _ _ | with_reducible assumption | refine bgw ?_ (by first | (simp; done) | (simp; omega) | omega) _ | refine Below.setCell ?_ (by first | exact Nat.le_of_not_lt (by assumption) | (simp; done) | (simp; omega) | omega) _ | refine Below.alloc ?_ (by first | (simp; done) | (simp; omega) | omega) _ | refine Below.drew ?_)))) (fail)
            all_goals
              go_wp2_with fail
            all_goals
              go_meet
              exact ⟨_, rfl, rfl, (by repeat (first | with_reducible exact blk_new _ _ _ | ((with_reducible refine blk_at ?_); (simp; done)) | with_reducible apply blk_alloc | with_reducible apply blk_gw | with_reducible apply blk_drew)), (by repeat (first | with_reducible exact Below.refl _ _ | with_reducible assumption | refine bgw ?_ (by first | (simp; done) | (simp; omega) | omega) _ | refine Below.setCell ?_ (by first | exact Nat.le_of_not_lt (by assumption) | (simp; done) | (simp; omega) | omega) _ | refine Below.alloc ?_ (by first | (simp; done) | (simp; omega) | omega) _ | refine Below.drew ?_))⟩
          · obtain rfl : K = true := by rw [hK.out, decide_eq_false fun h => c2 (hne.out.1 h).2]; rfl
            have b1 : (yk == py) = false := by rw [beq_eq_false_iff_ne]; exact c2
            subst c1
            go_region_held3 (fun w' => Below W.heap.size W w' ∧ w'.cell? ⟨b, off + k * 2, none⟩ = some (.int .i64 xk) ∧ w'.cell? ⟨b, off + k * 2 + 1, none⟩ = some (.int .i64 yk) ∧ w'.cell? ⟨w.heap.size, 0, none⟩ = some (.int .i64 xk) ∧ w'.cell? ⟨w.heap.size, 1, none⟩ = some (.int .i64 py)) (first | (refine hcellB _ ?_; exact (by repeat (first | with_reducible exact Below.refl _ _ | with_reducible assumption | refine bgw ?_ (by first | (simp; done) | (simp; omega) | omega) _ | refine Below.setCell ?_ (by first | exact Nat.le_of_not_lt (by assumption) | (simp; done) | (simp; omega) | omega) _ | refine Below.alloc ?_ (by first | (simp; done) | (simp; omega) | omega) _ | refine Below.drew ?_)))) (fail)
            all_goals
              go_wp2_with fail
            all_goals
              go_meet
              exact ⟨_, rfl, rfl, (by repeat (first | with_reducible exact blk_new _ _ _ | ((with_reducible refine blk_at ?_); (simp; done)) | with_reducible apply blk_alloc | with_reducible apply blk_gw | with_reducible apply blk_drew)), (by repeat (first | with_reducible exact Below.refl _ _ | with_reducible assumption | refine bgw ?_ (by first | (simp; done) | (simp; omega) | omega) _ | refine Below.setCell ?_ (by first | exact Nat.le_of_not_lt (by assumption) | (simp; done) | (simp; omega) | omega) _ | refine Below.alloc ?_ (by first | (simp; done) | (simp; omega) | omega) _ | refine Below.drew ?_))⟩
        · obtain rfl : K = true := by rw [hK.out, decide_eq_false fun h => c1 (hne.out.1 h).1]; rfl
          have b1 : (xk == px) = false := by rw [beq_eq_false_iff_ne]; exact c1
          go_region_held3 (fun w' => Below W.heap.size W w' ∧ w'.cell? ⟨b, off + k * 2, none⟩ = some (.int .i64 xk) ∧ w'.cell? ⟨b, off + k * 2 + 1, none⟩ = some (.int .i64 yk) ∧ w'.cell? ⟨w.heap.size, 0, none⟩ = some (.int .i64 px) ∧ w'.cell? ⟨w.heap.size, 1, none⟩ = some (.int .i64 py)) (first | (refine hcellB _ ?_; exact (by repeat (first | with_reducible exact Below.refl _ _ | with_reducible assumption | refine bgw ?_ (by first | (simp; done) | (simp; omega) | omega) _ | refine Below.setCell ?_ (by first | exact Nat.le_of_not_lt (by assumption) | (simp; done) | (simp; omega) | omega) _ | refine Below.alloc ?_ (by first | (simp; done) | (simp; omega) | omega) _ | refine Below.drew ?_)))) (fail)
          all_goals
            go_wp2_with fail
          all_goals
            go_meet
            exact ⟨_, rfl, rfl, (by repeat (first | with_reducible exact blk_new _ _ _ | ((with_reducible refine blk_at ?_); (simp; done)) | with_reducible apply blk_alloc | with_reducible apply blk_gw | with_reducible apply blk_drew)), (by repeat (first | with_reducible exact Below.refl _ _ | with_reducible assumption | refine bgw ?_ (by first | (simp; done) | (simp; omega) | omega) _ | refine Below.setCell ?_ (by first | exact Nat.le_of_not_lt (by assumption) | (simp; done) | (simp; omega) | omega) _ | refine Below.alloc ?_ (by first | (simp; done) | (simp; omega) | omega) _ | refine Below.drew ?_))⟩
      case rest =>
      obtain ⟨E, rfl, rfl, kE, hbX⟩ := hcut
      generalize wc = X at *
      obtain ⟨r, hr⟩ := gw_of_below hbX
      have kPX : blk X w.heap.size #[.int .i64 px, .int .i64 py] 27 := by rw [hr]; exact blk_gw kP
      have kRX : blk X (w.heap.size + 1) #[.int .i64 0, .int .i64 0] 27 := by rw [hr]; exact blk_gw kR
      have hzX : w.heap.size + 1 < X.heap.size := by rw [hr]; simp; omega
      clear hr hcellB kP2 kR2 ckP2_0 ckP2_1 fkP2_0 fkP2_1 okP2 ckR2_0 ckR2_1 fkR2_0 fkR2_1 okR2 d0 d1 ob hb0 hszP
      clear V
      have hno : ∀ j, (h : j < ps.length) → ¬ sideP (px, py) ps[k] ps[j] → nxOK ps (px, py) ps[k] = false := fun j h hs => by
        rw [Bool.eq_false_iff]; intro e; exact hs ((nx_true.1 e).2 j h)
      have hno2 : K = false → nxOK ps (px, py) ps[k] = false := fun h => by
        rw [Bool.eq_false_iff]; intro e; have := (nx_true.1 e).1; rw [hK.out, decide_eq_false this] at h; cases h
      have hyes : K = true → (∀ j (h : j < ps.length), sideP (px, py) ps[k] ps[j]) → nxOK ps (px, py) ps[k] = true := fun h hs => by
        refine nx_true.2 ⟨fun e => ?_, hs⟩
        rw [hK.out, decide_eq_true e] at h; cases h
      have hno3 : Hid (∀ j, (h : j < ps.length) → ¬ sideP (px, py) ps[k] ps[j] → nxOK ps (px, py) ps[k] = false) := hno
      have hyes3 : Hid (K = true → (∀ j (h : j < ps.length), sideP (px, py) ps[k] ps[j]) → nxOK ps (px, py) ps[k] = true) := hyes
      have hall3 : Hid (∀ j (h : j < ps.length), j < k → nxOK ps (px, py) ps[j] = false) := hall
      have hK0 : Hid (K = false → nxOK ps (px, py) ps[k] = false) := hno2
      clear hno hyes hno2 hall hK hne
      go_wp2_with fail
      go_loopw [7, 8] (fun ok m wx => ∃ (m' : Nat) (B : Bool), m' ≤ ps.length ∧ ok = .bool B ∧ m = .int .i64 (m' : Int) ∧ Hid ((B = true → K = true ∧ ∀ j (h : j < ps.length), j < m' → sideP (px, py) ps[k] ps[j]) ∧ (B = false → nxOK ps (px, py) ps[k] = false)) ∧ ∃ p, wx = gw X p)
        (fun _ m _ => (ps.length - intOf m).toNat)
      case atStart => exact ⟨0, K, by omega, rfl, rfl, ⟨fun h => ⟨h, fun j _ hj => absurd hj (by omega)⟩, hK0.out⟩, ⟨⟨X.drawn, #[]⟩, (gw_zero X).symm⟩⟩
      case round =>
        obtain ⟨m, B, hm, rfl, rfl, hB, p2, rfl⟩ := hrel
        have hbX2 : Below W.heap.size W (gw X p2) := Below.trans hbX ((below_gw X p2).mono hbX.size)
        have kP3 := blk_gw (p := p2) kPX
        have kR3 := blk_gw (p := p2) kRX
        have kE3 := blk_gw (p := p2) kE
        have hszX2 : X.heap.size ≤ (gw X p2).heap.size := by simp
        have okP3 := blk_older kP3
        have ckP3_0 : _ = some _ := blk_cell kP3 0
        have ckP3_1 : _ = some _ := blk_cell kP3 1
        have fkP3_0 := blk_free kP3 0
        have fkP3_1 := blk_free kP3 1
        have okE3 := blk_older kE3
        have ckE3_0 : _ = some _ := blk_cell kE3 0
        have ckE3_1 : _ = some _ := blk_cell kE3 1
        have fkE3_0 := blk_free kE3 0
        have fkE3_1 := blk_free kE3 1
        by_cases hml : m < ps.length
        · have m0 : (0 : Int) ≤ (m : Int) := by omega
          have m1 : (m : Int) < (ps.length : Int) := by omega
          cases B
          focus
            have hnew : ∀ j (h : j < ps.length), j < k + 1 → nxOK ps (px, py) ps[j] = false := fun j h hj => by
              rcases (by omega : j < k ∨ j = k) with h1 | rfl
              · exact hall3.out j h h1
              · exact hB.out.2 rfl
            clear hcell2
            go_wp2_with fail
            exact ⟨⟨k + 1, by omega, by go_num, hnew, gw_of_below hbX2⟩, by (try go_num); simp [intOf]; (try omega)⟩
          obtain ⟨b', off', e, f0, f1⟩ := hcell2 _ m hml hbX2
          cases e
          have ob := older_of_cell f0
          obtain ⟨s1, s2, s3⟩ := side_iff hpi2.out (hin2.out _ (List.getElem_mem hlt)) (hin2.out _ (List.getElem_mem hml))
          have hstop : Hid (¬ sideP (px, py) ps[k] ps[m] → nxOK ps (px, py) ps[k] = false) := fun h => hno3.out m hml h
          have hstep : Hid (sideP (px, py) ps[k] ps[m] → K = true ∧ ∀ j (h : j < ps.length), j < m + 1 → sideP (px, py) ps[k] ps[j]) := fun g => by
            obtain ⟨g1, g2⟩ := hB.out.1 rfl
            refine ⟨g1, fun j h hj => ?_⟩
            rcases (by omega : j < m ∨ j = m) with h1 | rfl
            · exact g2 j h h1
            · exact g
          have hside : Hid ((or3 (px, py) ps[k] ps[m] = 1 → sideP (px, py) ps[k] ps[m]) ∧ (or3 (px, py) ps[k] ps[m] = 0 → (sideP (px, py) ps[k] ps[m] ↔ dist2 px py ps[m].1 ps[m].2 ≤ dist2 px py ps[k].1 ps[k].2)) ∧ (or3 (px, py) ps[k] ps[m] ≠ 1 → or3 (px, py) ps[k] ps[m] ≠ 0 → ¬ sideP (px, py) ps[k] ps[m])) := ⟨s1, s2, s3⟩
          have cO : ∀ w', Calls Try.prog 37 #[.agg #[.int .i64 px, .int .i64 py], .agg #[.int .i64 xk, .int .i64 yk], .agg #[.int .i64 ps[m].1, .int .i64 ps[m].2]] w' fun e w'' => e = .returned (.int .i64 (or3 (px, py) ps[k] ps[m])) ∧ Below w'.heap.size w' w'' := fun w' => by rw [← hxk.out, ← hyk.out]; exact rorient_b _ _ _ _ _ _ w'
          have cD1 : ∀ w', Calls Try.prog 66 #[.agg #[.int .i64 px, .int .i64 py], .agg #[.int .i64 ps[m].1, .int .i64 ps[m].2]] w' fun e w'' => e = .returned (.int .i64 (dist2 px py ps[m].1 ps[m].2)) ∧ Below w'.heap.size w' w'' := fun w' => rdist2_b _ _ _ _ w'
          have cD2 : ∀ w', Calls Try.prog 66 #[.agg #[.int .i64 px, .int .i64 py], .agg #[.int .i64 xk, .int .i64 yk]] w' fun e w'' => e = .returned (.int .i64 (dist2 px py ps[k].1 ps[k].2)) ∧ Below w'.heap.size w' w'' := fun w' => by rw [← hxk.out, ← hyk.out]; exact rdist2_b _ _ _ _ w'
          clear hB hcell2 s1 s2 s3 hno3 hyes3 hall3 hK0
          generalize sideP (px, py) ps[k] ps[m] = SD at *
          generalize or3 (px, py) ps[k] ps[m] = O at *
          generalize dist2 px py ps[m].1 ps[m].2 = D1 at *
          generalize dist2 px py ps[k].1 ps[k].2 = D2 at *
          generalize ps[m].1 = xm at *
          generalize ps[m].2 = ym at *
          by_cases c1 : O = 1
          · have hg := hstep.out (hside.out.1 c1)
            have b1 : (O == 1) = true := by rw [beq_iff_eq]; exact c1
            clear hstep hstop hside c1
            go_wp2_with fail
            refine wp_region_gw (by kernel_rfl) (by decide +kernel) ?_
            repeat (go_big_quiet_step ((go_at_call 37; exact gw_call (cO _))))
            refine wpQuiet_nil ?_
            intro w1 hw1
            obtain ⟨q, rfl⟩ := hw1
            go_wp2_with fail
            refine wp_region_gw (by kernel_rfl) (by decide +kernel) ?_
            repeat (go_big_quiet_step ((first | (go_at_call 66; with_reducible exact gw_call (cD1 _)) | (go_at_call 66; with_reducible exact gw_call (cD2 _)))))
            refine wpQuiet_nil ?_
            intro w1 hw1
            obtain ⟨q2, rfl⟩ := hw1
            go_wp2_with fail
            exact ⟨⟨m + 1, true, by omega, by first | rfl | (simp [*]; done), by go_num, ⟨fun _ => hg, fun h => by cases h⟩, gw_of_below (by repeat (first | with_reducible exact Below.refl _ _ | with_reducible assumption | refine bgw ?_ (by first | (simp; done) | (simp; omega) | omega) _ | refine Below.setCell ?_ (by first | exact Nat.le_of_not_lt (by assumption) | (simp; done) | (simp; omega) | omega) _ | refine Below.alloc ?_ (by first | (simp; done) | (simp; omega) | omega) _ | refine Below.drew ?_))⟩, by (try go_num); simp [intOf]; (try omega)⟩
          have b1 : (O == 1) = false := by rw [beq_eq_false_iff_ne]; exact c1
          by_cases c2 : O = 0
          · have b2 : (O == 0) = true := by rw [beq_iff_eq]; exact c2
            by_cases c3 : D1 ≤ D2
            · have hg := hstep.out ((hside.out.2.1 c2).2 c3)
              clear hstep hstop hside c1 c2
              go_wp2_with fail
              refine wp_region_gw (by kernel_rfl) (by decide +kernel) ?_
              repeat (go_big_quiet_step ((go_at_call 37; exact gw_call (cO _))))
              refine wpQuiet_nil ?_
              intro w1 hw1
              obtain ⟨q, rfl⟩ := hw1
              go_wp2_with fail
              refine wp_region_gw (by kernel_rfl) (by decide +kernel) ?_
              repeat (go_big_quiet_step ((first | (go_at_call 66; with_reducible exact gw_call (cD1 _)) | (go_at_call 66; with_reducible exact gw_call (cD2 _)))))
              refine wpQuiet_nil ?_
              intro w1 hw1
              obtain ⟨q2, rfl⟩ := hw1
              go_wp2_with fail
              exact ⟨⟨m + 1, true, by omega, by first | rfl | (simp [*]; done), by go_num, ⟨fun _ => hg, fun h => by cases h⟩, gw_of_below (by repeat (first | with_reducible exact Below.refl _ _ | with_reducible assumption | refine bgw ?_ (by first | (simp; done) | (simp; omega) | omega) _ | refine Below.setCell ?_ (by first | exact Nat.le_of_not_lt (by assumption) | (simp; done) | (simp; omega) | omega) _ | refine Below.alloc ?_ (by first | (simp; done) | (simp; omega) | omega) _ | refine Below.drew ?_))⟩, by (try go_num); simp [intOf]; (try omega)⟩
            · have hg := hstop.out fun h => c3 ((hside.out.2.1 c2).1 h)
              clear hstep hstop hside c1 c2
              go_wp2_with fail
              refine wp_region_gw (by kernel_rfl) (by decide +kernel) ?_
              repeat (go_big_quiet_step ((go_at_call 37; exact gw_call (cO _))))
              refine wpQuiet_nil ?_
              intro w1 hw1
              obtain ⟨q, rfl⟩ := hw1
              go_wp2_with fail
              refine wp_region_gw (by kernel_rfl) (by decide +kernel) ?_
              repeat (go_big_quiet_step ((first | (go_at_call 66; with_reducible exact gw_call (cD1 _)) | (go_at_call 66; with_reducible exact gw_call (cD2 _)))))
              refine wpQuiet_nil ?_
              intro w1 hw1
              obtain ⟨q2, rfl⟩ := hw1
              go_wp2_with fail
              exact ⟨⟨m + 1, false, by omega, by first | rfl | (simp [*]; done), by go_num, ⟨fun h => (by cases h), fun _ => hg⟩, gw_of_below (by repeat (first | with_reducible exact Below.refl _ _ | with_reducible assumption | refine bgw ?_ (by first | (simp; done) | (simp; omega) | omega) _ | refine Below.setCell ?_ (by first | exact Nat.le_of_not_lt (by assumption) | (simp; done) | (simp; omega) | omega) _ | refine Below.alloc ?_ (by first | (simp; done) | (simp; omega) | omega) _ | refine Below.drew ?_))⟩, by (try go_num); simp [intOf]; (try omega)⟩
          · have b2 : (O == 0) = false := by rw [beq_eq_false_iff_ne]; exact c2
            have hg := hstop.out (hside.out.2.2 c1 c2)
            clear hstep hstop hside c1 c2
            go_wp2_with fail
            refine wp_region_gw (by kernel_rfl) (by decide +kernel) ?_
            repeat (go_big_quiet_step ((go_at_call 37; exact gw_call (cO _))))
            refine wpQuiet_nil ?_
            intro w1 hw1
            obtain ⟨q, rfl⟩ := hw1
            go_wp2_with fail
            refine wp_region_gw (by kernel_rfl) (by decide +kernel) ?_
            repeat (go_big_quiet_step ((first | (go_at_call 66; with_reducible exact gw_call (cD1 _)) | (go_at_call 66; with_reducible exact gw_call (cD2 _)))))
            refine wpQuiet_nil ?_
            intro w1 hw1
            obtain ⟨q2, rfl⟩ := hw1
            go_wp2_with fail
            exact ⟨⟨m + 1, false, by omega, by first | rfl | (simp [*]; done), by go_num, ⟨fun h => (by cases h), fun _ => hg⟩, gw_of_below (by repeat (first | with_reducible exact Below.refl _ _ | with_reducible assumption | refine bgw ?_ (by first | (simp; done) | (simp; omega) | omega) _ | refine Below.setCell ?_ (by first | exact Nat.le_of_not_lt (by assumption) | (simp; done) | (simp; omega) | omega) _ | refine Below.alloc ?_ (by first | (simp; done) | (simp; omega) | omega) _ | refine Below.drew ?_))⟩, by (try go_num); simp [intOf]; (try omega)⟩
        · obtain rfl : m = ps.length := by omega
          have m1 : ¬ (ps.length : Int) < (ps.length : Int) := by omega
          cases B
          focus
            have hnew : ∀ j (h : j < ps.length), j < k + 1 → nxOK ps (px, py) ps[j] = false := fun j h hj => by
              rcases (by omega : j < k ∨ j = k) with h1 | rfl
              · exact hall3.out j h h1
              · exact hB.out.2 rfl
            clear hcell2
            go_wp2_with fail
            exact ⟨⟨k + 1, by omega, by go_num, hnew, gw_of_below hbX2⟩, by (try go_num); simp [intOf]; (try omega)⟩
          have hfin := hyes3.out (hB.out.1 rfl).1 fun j h => (hB.out.1 rfl).2 j h h
          have hv := hUV.out
          rw [nxt_first hlt (fun j h hj => hall3.out j h hj) hfin] at hv
          have hv1 : ps[k].1 = U := congrArg Prod.fst hv
          have hv2 : ps[k].2 = V' := congrArg Prod.snd hv
          rw [hxk.out] at hv1
          rw [hyk.out] at hv2
          subst hv1 hv2
          have okR3 := blk_older kR3
          have ckR3_0 : _ = some _ := blk_cell kR3 0
          have ckR3_1 : _ = some _ := blk_cell kR3 1
          have fkR3_0 := blk_free kR3 0
          have fkR3_1 := blk_free kR3 1
          clear hv hUV hcell2 hB hfin hall3 hyes3 hno3 hK0
          go_wp2_with fail
          refine post_nmd ?_
          intro Z hZ
          have kZ : blk Z (w.heap.size + 1) #[.int .i64 xk, .int .i64 yk] 27 := by rw [hZ]; exact (by apply blk_of; (repeat (first | with_reducible exact kR3 | with_reducible apply blk_drew | with_reducible apply blk_gw | with_reducible apply blk_alloc | with_reducible apply blk_set | ((with_reducible apply blk_other); focus omega))); (first | rfl | simp))
          have hbZ : Below w.heap.size w Z := by rw [hZ]; exact Below.trans hbW (Below.trans (hbX.mono hbW.size) (by repeat (first | with_reducible exact Below.refl _ _ | with_reducible assumption | refine bgw ?_ (by first | (simp; done) | (simp; omega) | omega) _ | refine Below.setCell ?_ (by first | exact Nat.le_of_not_lt (by assumption) | (simp; done) | (simp; omega) | omega) _ | refine Below.alloc ?_ (by first | (simp; done) | (simp; omega) | omega) _ | refine Below.drew ?_)))
          clear hZ
          have okZ := blk_older kZ
          have ckZ_0 : _ = some _ := blk_cell kZ 0
          have ckZ_1 : _ = some _ := blk_cell kZ 1
          have fkZ_0 := blk_free kZ 0
          have fkZ_1 := blk_free kZ 1
          exact bodyPost_ret (v := .agg #[.int .i64 xk, .int .i64 yk]) (by simp [results, Try.results48, go_sem, ckZ_0, ckZ_1]) rfl ⟨rfl, hbZ⟩
    · obtain rfl : k = ps.length := by omega
      have i1 : ¬ (ps.length : Int) < (ps.length : Int) := by omega
      have hv := hUV.out
      rw [nxt_none fun j h => hall j h h] at hv
      obtain ⟨rfl, rfl⟩ : px = U ∧ py = V' := ⟨congrArg Prod.fst hv, congrArg Prod.snd hv⟩
      clear hall hv hUV hcell2
      go_wp2_with fail
      refine post_nmd ?_
      intro Z hZ
      have kZ : blk Z (w.heap.size + 1) #[.int .i64 px, .int .i64 py] 27 := by rw [hZ]; exact (by apply blk_of; (repeat (first | with_reducible exact kR2 | with_reducible apply blk_drew | with_reducible apply blk_gw | with_reducible apply blk_alloc | with_reducible apply blk_set | ((with_reducible apply blk_other); focus omega))); (first | rfl | simp))
      have hbZ : Below w.heap.size w Z := by rw [hZ]; exact Below.trans hbW (by repeat (first | with_reducible exact Below.refl _ _ | with_reducible assumption | refine bgw ?_ (by first | (simp; done) | (simp; omega) | omega) _ | refine Below.setCell ?_ (by first | exact Nat.le_of_not_lt (by assumption) | (simp; done) | (simp; omega) | omega) _ | refine Below.alloc ?_ (by first | (simp; done) | (simp; omega) | omega) _ | refine Below.drew ?_))
      clear hZ
      have okZ := blk_older kZ
      have ckZ_0 : _ = some _ := blk_cell kZ 0
      have ckZ_1 : _ = some _ := blk_cell kZ 1
      have fkZ_0 := blk_free kZ 0
      have fkZ_1 := blk_free kZ 1
      exact bodyPost_ret (v := .agg #[.int .i64 px, .int .i64 py]) (by simp [results, Try.results48, go_sem, ckZ_0, ckZ_1]) rfl ⟨rfl, hbZ⟩

end Go.Proofs.Ytncijpaooiopfaa

set_option linter.unusedVariables false
namespace Go.Proofs.Ytncijpaooiopfaa
open Go.RowKit Fx

def endL (ps : List Pt) : Nat → Pt
  | 0 => hp' ps 0
  | k + 1 => if (hp' ps k).1 < (endL ps k).1 ∨ ((hp' ps k).1 = (endL ps k).1 ∧ (hp' ps k).2 < (endL ps k).2) then hp' ps k else endL ps k
def endH (ps : List Pt) : Nat → Pt
  | 0 => hp' ps 0
  | k + 1 => if (endH ps k).1 < (hp' ps k).1 ∨ ((endH ps k).1 = (hp' ps k).1 ∧ (endH ps k).2 < (hp' ps k).2) then hp' ps k else endH ps k
def lowP (ps : List Pt) : Pt := endL ps ps.length
def highP (ps : List Pt) : Pt := endH ps ps.length
def colP (ps : List Pt) : Bool := decide (∀ q ∈ ps, or3 (lowP ps) (highP ps) q = 0)
theorem colP_iff {ps : List Pt} : colP ps = true ↔ ∀ j (h : j < ps.length), or3 (lowP ps) (highP ps) ps[j] = 0 := by
  unfold colP
  rw [decide_eq_true_iff]
  constructor
  · intro h j hj; exact h _ (List.getElem_mem hj)
  · intro h q hq; obtain ⟨j, hj, rfl⟩ := List.mem_iff_getElem.1 hq; exact h j hj

set_option maxRecDepth 100000 in
set_option maxHeartbeats 16000000 in
theorem rends_b (A : Option Addr) (cap : Nat) (ps : List (Int × Int)) (h0 : 0 < ps.length) (hl : ps.length ≤ 4611686018427387904) (w : World) (ha : Pts w A ps) : Calls Try.prog 47 #[.slice A ps.length cap] w fun e w' => e = .returned (.tuple #[.agg #[.int .i64 (lowP ps).1, .int .i64 (lowP ps).2, .int .i64 (highP ps).1, .int .i64 (highP ps).2], .bool (colP ps)]) ∧ Below w.heap.size w w' := by
  obtain ⟨C, hC0⟩ : ∃ C, Hid (colP ps = C) := ⟨colP ps, rfl⟩
  have hC : Hid (C = true ↔ ∀ j (h : j < ps.length), or3 (lowP ps) (highP ps) ps[j] = 0) := by show _ ↔ _; rw [← hC0.out]; exact colP_iff
  obtain ⟨LX, LY, hLo⟩ : ∃ x y, Hid (lowP ps = (x, y)) := ⟨_, _, rfl⟩
  obtain ⟨HX, HY, hHi⟩ : ∃ x y, Hid (highP ps = (x, y)) := ⟨_, _, rfl⟩
  rw [hC0.out, hLo.out, hHi.out]
  dsimp only
  clear hC0
  have n0 : (0 : Int) < (ps.length : Int) := by omega
  obtain ⟨b, off, rfl, hc0⟩ := pts_open0 ha h0
  have hcellB : ∀ w', Below w.heap.size w w' → Below w.heap.size w w' ∧ w'.cell? ⟨b, off, none⟩ = some (.int .i64 ps[0].1) ∧ w'.cell? ⟨b, off + 1, none⟩ = some (.int .i64 ps[0].2) := fun w' hb => by
    obtain ⟨b', off', e, hc⟩ := pts_open0 (Pts.to ha hb) h0
    cases e
    obtain ⟨e0, e1⟩ := hc 0 h0
    rw [Nat.zero_mul, Nat.add_zero] at e0 e1
    exact ⟨hb, e0, e1⟩
  obtain ⟨x0, hx0⟩ : ∃ x, Hid (ps[0].1 = x) := ⟨ps[0].1, rfl⟩
  obtain ⟨y0, hy0⟩ : ∃ x, Hid (ps[0].2 = x) := ⟨ps[0].2, rfl⟩
  rw [hx0.out, hy0.out] at hcellB
  clear hc0
  go_enter Try.func47, Try.ntmps47
  go_upto_region 1 with fail
  refine wp_named ?_
  intro W hW
  have kR : blk W w.heap.size #[.int .i64 0, .int .i64 0, .int .i64 0, .int .i64 0] 50 := by rw [hW]; exact (by repeat (first | with_reducible exact blk_new _ _ _ | ((with_reducible refine blk_at ?_); (simp; done)) | with_reducible apply blk_alloc | with_reducible apply blk_gw | with_reducible apply blk_drew))
  have hbW : Below w.heap.size w W := by rw [hW]; exact (by repeat (first | with_reducible exact Below.refl _ _ | with_reducible assumption | refine bgw ?_ (by first | (simp; done) | (simp; omega) | omega) _ | refine Below.setCell ?_ (by first | exact Nat.le_of_not_lt (by assumption) | (simp; done) | (simp; omega) | omega) _ | refine Below.alloc ?_ (by first | (simp; done) | (simp; omega) | omega) _ | refine Below.drew ?_))
  have hzW : w.heap.size < W.heap.size := by rw [hW]; simp
  clear hW
  have hszW := hbW.size
  obtain ⟨-, c0, c1⟩ := hcellB _ hbW
  go_cut [4, 5] (fun lo hi wx => ∃ L H : Nat, lo = .pointer (some ⟨L, 0, none⟩) ∧ hi = .pointer (some ⟨H, 0, none⟩) ∧ w.heap.size < L ∧ w.heap.size < H ∧ L ≠ H ∧ blk wx L #[.int .i64 x0, .int .i64 y0] 27 ∧ blk wx H #[.int .i64 x0, .int .i64 y0] 27 ∧ blk wx w.heap.size #[.int .i64 0, .int .i64 0, .int .i64 0, .int .i64 0] 50 ∧ Below w.heap.size w wx)
  case first =>
    go_region_held3 (fun w' => Below w.heap.size w w' ∧ w'.cell? ⟨b, off, none⟩ = some (.int .i64 x0) ∧ w'.cell? ⟨b, off + 1, none⟩ = some (.int .i64 y0)) (first | (refine hcellB _ ?_; exact (by repeat (first | with_reducible exact Below.refl _ _ | with_reducible assumption | refine bgw ?_ (by first | (simp; done) | (simp; omega) | omega) _ | refine Below.setCell ?_ (by first | exact Nat.le_of_not_lt (by assumption) | (simp; done) | (simp; omega) | omega) _ | refine Below.alloc ?_ (by first | (simp; done) | (simp; omega) | omega) _ | refine Below.drew ?_)))) (fail)
    all_goals
      go_wp2_with fail
    all_goals
      go_meet
      exact ⟨_, _, rfl, rfl, by omega, by omega, by omega, (by repeat (first | with_reducible exact blk_new _ _ _ | ((with_reducible refine blk_at ?_); (simp; done)) | with_reducible apply blk_alloc | with_reducible apply blk_gw | with_reducible apply blk_drew)), (by repeat (first | with_reducible exact blk_new _ _ _ | ((with_reducible refine blk_at ?_); (simp; done)) | with_reducible apply blk_alloc | with_reducible apply blk_gw | with_reducible apply blk_drew)), (by apply blk_of; (repeat (first | with_reducible exact kR | with_reducible apply blk_drew | with_reducible apply blk_gw | with_reducible apply blk_alloc | with_reducible apply blk_set | ((with_reducible apply blk_other); focus omega))); (first | rfl | simp)), (by repeat (first | with_reducible exact Below.refl _ _ | with_reducible assumption | refine bgw ?_ (by first | (simp; done) | (simp; omega) | omega) _ | refine Below.setCell ?_ (by first | exact Nat.le_of_not_lt (by assumption) | (simp; done) | (simp; omega) | omega) _ | refine Below.alloc ?_ (by first | (simp; done) | (simp; omega) | omega) _ | refine Below.drew ?_))⟩
  case rest =>
  obtain ⟨L, H, rfl, rfl, hLw, hHw, hLH, kL0, kH0, kR0, hbX⟩ := hcut
  generalize wc = X at *
  clear c0 c1 kR hbW hzW hszW hcellB
  clear W
  go_wp2_with fail
  go_loopw [6] (fun i wr => ∃ k : Nat, k ≤ ps.length ∧ i = .int .i64 (k : Int) ∧ blk wr L #[.int .i64 (endL ps k).1, .int .i64 (endL ps k).2] 27 ∧ blk wr H #[.int .i64 (endH ps k).1, .int .i64 (endH ps k).2] 27 ∧ blk wr w.heap.size #[.int .i64 0, .int .i64 0, .int .i64 0, .int .i64 0] 50 ∧ Below w.heap.size w wr)
    (fun i _ => (ps.length - intOf i).toNat)
  case atStart => exact ⟨0, by omega, rfl, by rw [show endL ps 0 = ps[0] from hp_get h0, hx0.out, hy0.out]; exact kL0, by rw [show endH ps 0 = ps[0] from hp_get h0, hx0.out, hy0.out]; exact kH0, kR0, hbX⟩
  case round =>
    obtain ⟨k, hk, rfl, kL, kH, kR, hbR⟩ := hrel
    have hszR := hbR.size
    have hLz := blk_older kL
    by_cases hlt : k < ps.length
    · have i0 : (0 : Int) ≤ (k : Int) := by omega
      have i1 : (k : Int) < (ps.length : Int) := by omega
      obtain ⟨b', off', e, hc⟩ := pts_open0 (Pts.to ha hbR) h0
      cases e
      obtain ⟨d0, d1⟩ := hc k hlt
      have ob := older_of_cell d0
      have hL1 : Hid (endL ps (k + 1) = if ps[k].1 < (endL ps k).1 ∨ (ps[k].1 = (endL ps k).1 ∧ ps[k].2 < (endL ps k).2) then ps[k] else endL ps k) := by show _ = _; rw [← hp_get hlt]; rfl
      have hH1 : Hid (endH ps (k + 1) = if (endH ps k).1 < ps[k].1 ∨ ((endH ps k).1 = ps[k].1 ∧ (endH ps k).2 < ps[k].2) then ps[k] else endH ps k) := by show _ = _; rw [← hp_get hlt]; rfl
      clear hc
      obtain ⟨v, hv⟩ : ∃ v, ps[k] = v := ⟨_, rfl⟩
      rw [hv] at hL1 hH1 d0 d1
      clear hv
      generalize hlk : endL ps k = lk at *
      generalize hhk : endH ps k = hk' at *
      clear hlk hhk
      obtain ⟨lx, ly⟩ := lk
      obtain ⟨hx, hy⟩ := hk'
      obtain ⟨xk, yk⟩ := v
      dsimp only at kL kH d0 d1
      have hLc : (xk < lx ∧ Hid (endL ps (k + 1) = (xk, yk))) ∨ (¬ xk < lx ∧ (xk == lx) = false ∧ Hid (endL ps (k + 1) = (lx, ly))) ∨ (¬ xk < lx ∧ (xk == lx) = true ∧ yk < ly ∧ Hid (endL ps (k + 1) = (xk, yk))) ∨ (¬ xk < lx ∧ (xk == lx) = true ∧ ¬ yk < ly ∧ Hid (endL ps (k + 1) = (lx, ly))) := by
        have h := hL1.out
        dsimp only at h
        by_cases c1 : xk < lx
        · exact .inl ⟨c1, by rw [if_pos (.inl c1)] at h; exact h⟩
        · by_cases c2 : xk = lx
          · by_cases c3 : yk < ly
            · exact .inr (.inr (.inl ⟨c1, by rw [beq_iff_eq]; exact c2, c3, by rw [if_pos (.inr ⟨c2, c3⟩)] at h; exact h⟩))
            · exact .inr (.inr (.inr ⟨c1, by rw [beq_iff_eq]; exact c2, c3, by rw [if_neg (by omega)] at h; exact h⟩))
          · exact .inr (.inl ⟨c1, by rw [beq_eq_false_iff_ne]; exact c2, by rw [if_neg (by omega)] at h; exact h⟩)
      have hHc : (hx < xk ∧ Hid (endH ps (k + 1) = (xk, yk))) ∨ (¬ hx < xk ∧ (xk == hx) = false ∧ Hid (endH ps (k + 1) = (hx, hy))) ∨ (¬ hx < xk ∧ (xk == hx) = true ∧ hy < yk ∧ Hid (endH ps (k + 1) = (xk, yk))) ∨ (¬ hx < xk ∧ (xk == hx) = true ∧ ¬ hy < yk ∧ Hid (endH ps (k + 1) = (hx, hy))) := by
        have h := hH1.out
        dsimp only at h
        by_cases c1 : hx < xk
        · exact .inl ⟨c1, by rw [if_pos (.inl c1)] at h; exact h⟩
        · by_cases c2 : xk = hx
          · by_cases c3 : hy < yk
            · exact .inr (.inr (.inl ⟨c1, by rw [beq_iff_eq]; exact c2, c3, by rw [if_pos (.inr ⟨c2.symm, c3⟩)] at h; exact h⟩))
            · exact .inr (.inr (.inr ⟨c1, by rw [beq_iff_eq]; exact c2, c3, by rw [if_neg (by omega)] at h; exact h⟩))
          · exact .inr (.inl ⟨c1, by rw [beq_eq_false_iff_ne]; exact c2, by rw [if_neg (by omega)] at h; exact h⟩)
      clear hL1 hH1
      have okL := blk_older kL
      have ckL_0 : _ = some _ := blk_cell kL 0
      have ckL_1 : _ = some _ := blk_cell kL 1
      have fkL_0 := blk_free kL 0
      have fkL_1 := blk_free kL 1
      have okH := blk_older kH
      have ckH_0 : _ = some _ := blk_cell kH 0
      have ckH_1 : _ = some _ := blk_cell kH 1
      have fkH_0 := blk_free kH 0
      have fkH_1 := blk_free kH 1
      rcases hLc with ⟨a1, hLv⟩ | ⟨a1, a2, hLv⟩ | ⟨a1, a2, a3, hLv⟩ | ⟨a1, a2, a3, hLv⟩ <;> rcases hHc with ⟨b1, hHv⟩ | ⟨b1, b2, hHv⟩ | ⟨b1, b2, b3, hHv⟩ | ⟨b1, b2, b3, hHv⟩
      all_goals
        go_wp2_with fail
      all_goals
        exact ⟨⟨k + 1, by omega, by go_num, by rw [hLv.out]; exact (by apply blk_of; (repeat (first | with_reducible exact kL | with_reducible apply blk_drew | with_reducible apply blk_gw | with_reducible apply blk_alloc | with_reducible apply blk_set | ((with_reducible apply blk_other); focus omega))); (first | rfl | simp)), by rw [hHv.out]; exact (by apply blk_of; (repeat (first | with_reducible exact kH | with_reducible apply blk_drew | with_reducible apply blk_gw | with_reducible apply blk_alloc | with_reducible apply blk_set | ((with_reducible apply blk_other); focus omega))); (first | rfl | simp)), (by apply blk_of; (repeat (first | with_reducible exact kR | with_reducible apply blk_drew | with_reducible apply blk_gw | with_reducible apply blk_alloc | with_reducible apply blk_set | ((with_reducible apply blk_other); focus omega))); (first | rfl | simp)), (by repeat (first | with_reducible exact Below.refl _ _ | with_reducible assumption | refine bgw ?_ (by first | (simp; done) | (simp; omega) | omega) _ | refine Below.setCell ?_ (by first | exact Nat.le_of_not_lt (by assumption) | (simp; done) | (simp; omega) | omega) _ | refine Below.alloc ?_ (by first | (simp; done) | (simp; omega) | omega) _ | refine Below.drew ?_))⟩, by (try go_num); simp [intOf]; (try omega)⟩
    · obtain rfl : k = ps.length := by omega
      have i1 : ¬ (ps.length : Int) < (ps.length : Int) := by omega
      rw [show endL ps ps.length = (LX, LY) from hLo.out] at kL
      rw [show endH ps ps.length = (HX, HY) from hHi.out] at kH
      dsimp only at kL kH
      have hC2 : Hid (C = true ↔ ∀ j (h : j < ps.length), or3 (LX, LY) (HX, HY) ps[j] = 0) := by have := hC.out; rw [hLo.out, hHi.out] at this; exact this
      clear hC hLo hHi hLz
      generalize wr = Y at *
      have hcell3 : ∀ (p : Gw) (i : Nat) (h : i < ps.length), (gw Y p).cell? ⟨b, off + i * 2, none⟩ = some (.int .i64 ps[i].1) ∧ (gw Y p).cell? ⟨b, off + i * 2 + 1, none⟩ = some (.int .i64 ps[i].2) := fun p i h => by
        obtain ⟨b', off', e, hc⟩ := pts_open0 (Pts.to ha (Below.trans hbR ((below_gw Y p).mono hbR.size))) h0
        cases e
        exact hc i h
      go_wp2_with fail
      go_loopw [8] (fun i wx => ∃ m : Nat, m ≤ ps.length ∧ i = .int .i64 (m : Int) ∧ Hid (∀ j (h : j < ps.length), j < m → or3 (LX, LY) (HX, HY) ps[j] = 0) ∧ ∃ p, wx = gw Y p)
        (fun i _ => (ps.length - intOf i).toNat)
      case atStart => exact ⟨0, by omega, rfl, fun j _ hj => absurd hj (by omega), ⟨⟨Y.drawn, #[]⟩, (gw_zero Y).symm⟩⟩
      case round =>
        obtain ⟨m, hm, rfl, hall, p, rfl⟩ := hrel
        have kL2 := blk_gw (p := p) kL
        have kH2 := blk_gw (p := p) kH
        have kR2 := blk_gw (p := p) kR
        have hszY : Y.heap.size ≤ (gw Y p).heap.size := by simp
        have hszR := hbR.size
        have okL2 := blk_older kL2
        have ckL2_0 : _ = some _ := blk_cell kL2 0
        have ckL2_1 : _ = some _ := blk_cell kL2 1
        have fkL2_0 := blk_free kL2 0
        have fkL2_1 := blk_free kL2 1
        have okH2 := blk_older kH2
        have ckH2_0 : _ = some _ := blk_cell kH2 0
        have ckH2_1 : _ = some _ := blk_cell kH2 1
        have fkH2_0 := blk_free kH2 0
        have fkH2_1 := blk_free kH2 1
        have okR2 := blk_older kR2
        have ckR2_0 : _ = some _ := blk_cell kR2 0
        have ckR2_1 : _ = some _ := blk_cell kR2 1
        have ckR2_2 : _ = some _ := blk_cell kR2 2
        have ckR2_3 : _ = some _ := blk_cell kR2 3
        have fkR2_0 := blk_free kR2 0
        have fkR2_1 := blk_free kR2 1
        have fkR2_2 := blk_free kR2 2
        have fkR2_3 := blk_free kR2 3
        by_cases hml : m < ps.length
        · have m0 : (0 : Int) ≤ (m : Int) := by omega
          have m1 : (m : Int) < (ps.length : Int) := by omega
          obtain ⟨f0, f1⟩ := hcell3 p m hml
          have ob := older_of_cell f0
          have cO : ∀ w', Calls Try.prog 37 #[.agg #[.int .i64 LX, .int .i64 LY], .agg #[.int .i64 HX, .int .i64 HY], .agg #[.int .i64 ps[m].1, .int .i64 ps[m].2]] w' fun e w'' => e = .returned (.int .i64 (or3 (LX, LY) (HX, HY) ps[m])) ∧ Below w'.heap.size w' w'' := fun w' => rorient_b _ _ _ _ _ _ w'
          have hstep : or3 (LX, LY) (HX, HY) ps[m] = 0 → Hid (∀ j (h : j < ps.length), j < m + 1 → or3 (LX, LY) (HX, HY) ps[j] = 0) := fun g j h hj => by
            rcases (by omega : j < m ∨ j = m) with h1 | rfl
            · exact hall.out j h h1
            · exact g
          have hstop : or3 (LX, LY) (HX, HY) ps[m] ≠ 0 → C = false := fun g => by
            rw [Bool.eq_false_iff]; intro e; exact g (hC2.out.1 e m hml)
          clear hall hcell3 hC2
          generalize or3 (LX, LY) (HX, HY) ps[m] = O at *
          generalize ps[m].1 = xm at *
          generalize ps[m].2 = ym at *
          by_cases c : O = 0
          · have hg := hstep c
            have b1 : (O != 0) = false := by rw [bne_eq_false_iff_eq]; exact c
            clear hstep hstop c
            go_wp2_with fail
            refine wp_region_gw (by kernel_rfl) (by kernel_rfl) ?_
            repeat (go_big_quiet_step ((go_at_call 37; exact gw_call (cO _))))
            refine wpQuiet_nil ?_
            intro w1 hw1
            obtain ⟨q, rfl⟩ := hw1
            go_wp2_with fail
            exact ⟨⟨m + 1, by omega, by go_num, hg, gw_gw _ _ _⟩, by (try go_num); simp [intOf]; (try omega)⟩
          · obtain rfl := hstop c
            have b1 : (O != 0) = true := by rw [bne_iff_ne]; exact c
            clear hstep hstop c
            go_wp2_with fail
            refine wp_region_gw (by kernel_rfl) (by kernel_rfl) ?_
            repeat (go_big_quiet_step ((go_at_call 37; exact gw_call (cO _))))
            refine wpQuiet_nil ?_
            intro w1 hw1
            obtain ⟨q, rfl⟩ := hw1
            go_wp2_with fail
            refine post_nmd ?_
            intro Z hZ
            have kZ : blk Z w.heap.size #[.int .i64 LX, .int .i64 LY, .int .i64 HX, .int .i64 HY] 50 := by rw [hZ]; exact (by apply blk_of; (repeat (first | with_reducible exact kR2 | with_reducible apply blk_drew | with_reducible apply blk_gw | with_reducible apply blk_alloc | with_reducible apply blk_set | ((with_reducible apply blk_other); focus omega))); (first | rfl | simp))
            have hbZ : Below w.heap.size w Z := by rw [hZ]; exact Below.trans hbR (by repeat (first | with_reducible exact Below.refl _ _ | with_reducible assumption | refine bgw ?_ (by first | (simp; done) | (simp; omega) | omega) _ | refine Below.setCell ?_ (by first | exact Nat.le_of_not_lt (by assumption) | (simp; done) | (simp; omega) | omega) _ | refine Below.alloc ?_ (by first | (simp; done) | (simp; omega) | omega) _ | refine Below.drew ?_))
            clear hZ
            have okZ := blk_older kZ
            have ckZ_0 : _ = some _ := blk_cell kZ 0
            have ckZ_1 : _ = some _ := blk_cell kZ 1
            have ckZ_2 : _ = some _ := blk_cell kZ 2
            have ckZ_3 : _ = some _ := blk_cell kZ 3
            have fkZ_0 := blk_free kZ 0
            have fkZ_1 := blk_free kZ 1
            have fkZ_2 := blk_free kZ 2
            have fkZ_3 := blk_free kZ 3
            exact bodyPost_ret (v := .tuple #[.agg #[.int .i64 LX, .int .i64 LY, .int .i64 HX, .int .i64 HY], .bool false]) (by simp [results, Try.results47, go_sem, ckZ_0, ckZ_1, ckZ_2, ckZ_3]) rfl ⟨rfl, hbZ⟩
        · obtain rfl : m = ps.length := by omega
          have m1 : ¬ (ps.length : Int) < (ps.length : Int) := by omega
          obtain rfl : C = true := hC2.out.2 fun j h => hall.out j h h
          clear hall hcell3 hC2
          go_wp2_with fail
          refine post_nmd ?_
          intro Z hZ
          have kZ : blk Z w.heap.size #[.int .i64 LX, .int .i64 LY, .int .i64 HX, .int .i64 HY] 50 := by rw [hZ]; exact (by apply blk_of; (repeat (first | with_reducible exact kR2 | with_reducible apply blk_drew | with_reducible apply blk_gw | with_reducible apply blk_alloc | with_reducible apply blk_set | ((with_reducible apply blk_other); focus omega))); (first | rfl | simp))
          have hbZ : Below w.heap.size w Z := by rw [hZ]; exact Below.trans hbR (by repeat (first | with_reducible exact Below.refl _ _ | with_reducible assumption | refine bgw ?_ (by first | (simp; done) | (simp; omega) | omega) _ | refine Below.setCell ?_ (by first | exact Nat.le_of_not_lt (by assumption) | (simp; done) | (simp; omega) | omega) _ | refine Below.alloc ?_ (by first | (simp; done) | (simp; omega) | omega) _ | refine Below.drew ?_))
          clear hZ
          have okZ := blk_older kZ
          have ckZ_0 : _ = some _ := blk_cell kZ 0
          have ckZ_1 : _ = some _ := blk_cell kZ 1
          have ckZ_2 : _ = some _ := blk_cell kZ 2
          have ckZ_3 : _ = some _ := blk_cell kZ 3
          have fkZ_0 := blk_free kZ 0
          have fkZ_1 := blk_free kZ 1
          have fkZ_2 := blk_free kZ 2
          have fkZ_3 := blk_free kZ 3
          exact bodyPost_ret (v := .tuple #[.agg #[.int .i64 LX, .int .i64 LY, .int .i64 HX, .int .i64 HY], .bool true]) (by simp [results, Try.results47, go_sem, ckZ_0, ckZ_1, ckZ_2, ckZ_3]) rfl ⟨rfl, hbZ⟩

end Go.Proofs.Ytncijpaooiopfaa

set_option linter.unusedVariables false
namespace Go.Proofs.Ytncijpaooiopfaa
open Go.RowKit Fx

theorem pv_append : ∀ a b : List (Int × Int), pv (a ++ b) = pv a ++ pv b
  | [], b => rfl
  | p :: a, b => by simp [pv, pv_append a b]
theorem info_vec : (Try.prog.info? 27).map (fun i => (i.zero, i.size, i.bytes)) = some (some (.agg #[.int .i64 0, .int .i64 0]), 2, 16) := by kernel_rfl
theorem owns_lit2 {w : World} {b : Nat} {e : TypeId} {ps : List (Int × Int)} {B n : Nat} (h : blk w b (pv ps).toArray e) (hn : ps.length = n) (hB : B ≤ b) (hm : n ≤ maxLen) : w.ownsRow B e 2 (.slice (some ⟨b, 0, none⟩) n n) n (pv ps) := by
  subst hn
  exact ⟨by simp, .inr ⟨b, ps.length, (pv ps).toArray, rfl, hB, h, Nat.le_refl _, hm, by simp, by simp [List.take_of_length_le]⟩⟩
theorem owns_pts {w : World} {B : Nat} {e : TypeId} {v : Value} {n : Nat} {ps : List (Int × Int)} (h : w.ownsRow B e 2 v n (pv ps)) : ∃ A cap, v = .slice A ps.length cap ∧ n = ps.length ∧ ps.length ≤ cap ∧ cap ≤ maxLen ∧ Pts w A ps := by
  obtain ⟨hl, ⟨rfl, rfl⟩ | ⟨g, cap, cur, rfl, hb, hh, hn, hm, hc, ht⟩⟩ := h
  · have h0 : ps = [] := by cases ps with | nil => rfl | cons p ps => simp [pv] at hl
    subst h0
    exact ⟨none, 0, rfl, rfl, Nat.le_refl _, by decide, .inl rfl⟩
  · rw [pv_length] at hl
    have hnl : n = ps.length := by omega
    subst hnl
    refine ⟨some ⟨g, 0, none⟩, cap, rfl, rfl, hn, hm, .inr ⟨g, 0, rfl, fun i hi => ?_⟩⟩
    obtain ⟨g1, g2⟩ := pv_get ps i hi
    have key : ∀ j u, j < ps.length * 2 → (pv ps)[j]? = some u → cur[j]? = some u := fun j u hj hu => by
      rw [← ht, List.getElem?_take, if_pos hj] at hu
      simpa using hu
    have hh' : blk w g cur e := hh
    rw [Nat.zero_add, blk_cell hh', blk_cell hh']
    exact ⟨key _ _ (by omega) g1, key _ _ (by omega) g2⟩
theorem blk_grown {w w' : World} {row : Option Nat} (hg : w.grownBy w' row) {k : Nat} {c : Array Value} {t : TypeId} (h : blk w k c t) (hne : row ≠ some k) : blk w' k c t :=
  (hg.block k (blk_lt h) (fun e => hne e.symm)).trans h
theorem wpList_app2 {P : Program} {w : World} {ops : Array Oper} {rest : List Oper} {o : Oper} {a : Act} {Q : Exit → Act → World → Prop} (hg : o.guard = none) (s x : Operand) (t : TypeId)
    (ho : o.op = .call { callee := .builtin .append, args := #[s, x], argTypes := #[t, t] })
    (B : Nat) (e : TypeId) (i : TypeInfo) (z : Value) (bytes : Nat) (ht : P.underlying t = some (.slice e)) (hi : P.info? e = some i) (hz : i.zero = some z) (hsize : i.size = 2) (hby : i.bytes = bytes) (hzs : z.cells.size = 2)
    (v : Value) (n : Nat) (xs : List Value) (hs : a.eval s = v) (hown : w.ownsRow B e 2 v n xs) (b : Nat) (y1 y2 : Value) (te : TypeId) (hx : a.eval x = .slice (some ⟨b, 0, none⟩) 1 1) (hy : blk w b #[y1, y2] te) (h1 : y1.oneCell' = true) (h2 : y2.oneCell' = true)
    (h63 : n + 1 ≤ maxLen) (hbytes : (n + 1) * bytes ≤ 140737488355328) (hB : B ≤ w.heap.size)
    (h : ∀ v' w', w'.ownsRow B e 2 v' (n + 1) (xs ++ [y1, y2]) → Below B w w' → w.grownBy w' v.ownBlock → (v'.ownBlock = v.ownBlock ∨ v'.ownBlock = some w.heap.size) → wpList P ops Q rest (a.put o.dst v') w') : wpList P ops Q (o :: rest) a w := by
  refine wpList_append_own_at w hg s x t ho B e i z 2 bytes ht hi hz hsize hby hzs (by decide) v n xs hs hown ⟨b, 0, none⟩ 1 1 [y1, y2] hx rfl (fun j u hj => ?_) (fun u hu => ?_) h63 hbytes hB (fun v' w' h2 h3 _ h5 => h v' w' h2 ?_ h3 h5)
  · match j, hj with
    | 0, hj => simp at hj; subst hj; simpa [Addr.add] using blk_cell hy 0
    | 1, hj => simp at hj; subst hj; simpa [Addr.add] using blk_cell hy 1
  · simp at hu; rcases hu with rfl | rfl <;> assumption
  · refine ⟨h3.os, h3.tape, h3.output, h3.size, fun k hk => h3.block k (by omega) fun hk' => ?_⟩
    obtain ⟨_, ⟨rfl, _⟩ | ⟨g, cap, cur, rfl, hBg, _⟩⟩ := hown
    · simp [Value.ownBlock] at hk'
    · simp [Value.ownBlock] at hk'; omega

/-- ConvexHull of the reference. -/
def hullP (ps : List Pt) : List Pt :=
  if ps.length < 1 ∨ 64 < ps.length ∨ ¬ (∀ p ∈ ps, inrP p) then []
  else if colP ps = true then (if lowP ps = highP ps then [lowP ps] else [lowP ps, highP ps])
  else hloop ps (lowP ps) (ps.length + 1) (nxt ps (lowP ps)) [lowP ps]
theorem nxt_inr {ps : List Pt} (hin : ∀ q ∈ ps, inrP q) {p : Pt} (hp : inrP p) : inrP (nxt ps p) := by
  unfold nxt
  cases e : ps.find? (nxOK ps p) with
  | none => exact hp
  | some q => exact hin _ (List.mem_of_find?_eq_some e)
theorem endL_mem {ps : List Pt} (h0 : 0 < ps.length) : ∀ k, endL ps k ∈ ps
  | 0 => hp_mem 0 h0
  | k + 1 => by
    show (if _ then _ else _) ∈ ps
    split
    · exact hp_mem k h0
    · exact endL_mem h0 k
theorem endH_mem {ps : List Pt} (h0 : 0 < ps.length) : ∀ k, endH ps k ∈ ps
  | 0 => hp_mem 0 h0
  | k + 1 => by
    show (if _ then _ else _) ∈ ps
    split
    · exact hp_mem k h0
    · exact endH_mem h0 k
def lenOf : Value → Nat
  | .slice _ n _ => n
  | _ => 0

end Go.Proofs.Ytncijpaooiopfaa

set_option linter.unusedVariables false
namespace Go.Proofs.Ytncijpaooiopfaa
open Go.RowKit Fx

def HullR (w : World) (R : List Pt) (e : Ending) (w' : World) : Prop := (∃ A' cap', e = .returned (.slice A' R.length cap') ∧ R.length ≤ cap' ∧ cap' ≤ maxLen ∧ Pts w' A' R) ∧ Below w.heap.size w w'

theorem hloop_stop {S : List Pt} {x0 : Pt} {k : Nat} {v : Pt} {out : List Pt} (h : ¬ (v ≠ x0 ∧ out.length ≤ S.length)) : hloop S x0 k v out = out := by
  cases k with
  | zero => rfl
  | succ k => unfold hloop; rw [if_neg h]
theorem hloop_go {S : List Pt} {x0 : Pt} {k : Nat} {v : Pt} {out : List Pt} (h1 : v ≠ x0) (h2 : out.length ≤ S.length) : hloop S x0 (k + 1) v out = hloop S x0 k (nxt S v) (out ++ [v]) := by
  rw [hloop, if_pos ⟨h1, h2⟩]

set_option maxRecDepth 100000 in
set_option maxHeartbeats 16000000 in
theorem rhull_b (A : Option Addr) (cap : Nat) (ps : List (Int × Int)) (hl : ps.length ≤ 4611686018427387904) (w : World) (ha : Pts w A ps) : Calls Try.prog 24 #[.slice A ps.length cap] w (HullR w (hullP ps)) := by
  obtain ⟨R, hR⟩ : ∃ R, Hid (hullP ps = R) := ⟨hullP ps, rfl⟩
  rw [hR.out]
  by_cases n1 : ps.length < 1
  focus
    obtain rfl : [] = R := by rw [← hR.out]; unfold hullP; rw [if_pos (.inl n1)]
    have i1 : (ps.length : Int) < 1 := by omega
    clear hR n1
    go_enter Try.func24, Try.ntmps24
    go_wp2_with fail
    exact bodyPost_ret (v := .slice none 0 0) (by simp [results, Try.results24, go_sem]) rfl ⟨⟨_, _, rfl, Nat.le_refl _, by decide, .inl rfl⟩, (by repeat (first | with_reducible exact Below.refl _ _ | with_reducible assumption | refine bgw ?_ (by first | (simp; done) | (simp; omega) | omega) _ | refine Below.setCell ?_ (by first | exact Nat.le_of_not_lt (by assumption) | (simp; done) | (simp; omega) | omega) _ | refine Below.alloc ?_ (by first | (simp; done) | (simp; omega) | omega) _ | refine Below.drew ?_))⟩
  have i1 : ¬ (ps.length : Int) < 1 := by omega
  by_cases n64 : 64 < ps.length
  focus
    obtain rfl : [] = R := by rw [← hR.out]; unfold hullP; rw [if_pos (.inr (.inl n64))]
    have i2 : (64 : Int) < (ps.length : Int) := by omega
    clear hR n1 n64
    go_enter Try.func24, Try.ntmps24
    go_wp2_with fail
    exact bodyPost_ret (v := .slice none 0 0) (by simp [results, Try.results24, go_sem]) rfl ⟨⟨_, _, rfl, Nat.le_refl _, by decide, .inl rfl⟩, (by repeat (first | with_reducible exact Below.refl _ _ | with_reducible assumption | refine bgw ?_ (by first | (simp; done) | (simp; omega) | omega) _ | refine Below.setCell ?_ (by first | exact Nat.le_of_not_lt (by assumption) | (simp; done) | (simp; omega) | omega) _ | refine Below.alloc ?_ (by first | (simp; done) | (simp; omega) | omega) _ | refine Below.drew ?_))⟩
  have i2 : ¬ (64 : Int) < (ps.length : Int) := by omega
  have h0 : 0 < ps.length := by omega
  have hRno : ¬ (∀ p ∈ ps, inrP p) → [] = R := fun h => by rw [← hR.out]; unfold hullP; rw [if_pos (.inr (.inr h))]
  have hRyes : Hid ((∀ p ∈ ps, inrP p) → (if colP ps = true then (if lowP ps = highP ps then [lowP ps] else [lowP ps, highP ps]) else hloop ps (lowP ps) (ps.length + 1) (nxt ps (lowP ps)) [lowP ps]) = R) := fun h => by
    rw [← hR.out]; unfold hullP; exact (if_neg (fun e => e.elim n1 fun e => e.elim n64 fun e => e h)).symm
  clear hR
  obtain ⟨b, off, rfl, hcell⟩ := pts_open ha h0
  go_enter Try.func24, Try.ntmps24
  go_wp2_with fail
  go_loopw [3] (fun i wr => ∃ k : Nat, k ≤ ps.length ∧ i = .int .i64 k ∧ (∀ j (h : j < ps.length), j < k → inrP ps[j]) ∧ ∃ p, wr = gw w p)
    (fun i _ => (ps.length - intOf i).toNat)
  case atStart => exact ⟨0, by omega, rfl, by omega, ⟨⟨w.drawn, #[]⟩, (gw_zero w).symm⟩⟩
  case round =>
    obtain ⟨k, hk, rfl, hall, p, rfl⟩ := hrel
    by_cases hlt : k < ps.length
    · have i0 : (0 : Int) ≤ (k : Int) := by omega
      have i3 : (k : Int) < (ps.length : Int) := by omega
      obtain ⟨d0, d1⟩ := hcell p k hlt
      have ob := older_of_cell d0
      have cI : ∀ w', Calls Try.prog 36 #[.agg #[.int .i64 ps[k].1, .int .i64 ps[k].2]] w' fun e w'' => e = .returned (.bool (decide (inrP ps[k]))) ∧ Below w'.heap.size w' w'' := fun w' => rinr_b ps[k].1 ps[k].2 w'
      have hno : ¬ inrP ps[k] → [] = R := fun h => hRno fun e => h (e _ (List.getElem_mem hlt))
      have hsucc : inrP ps[k] → ∀ j (h : j < ps.length), j < k + 1 → inrP ps[j] := fun g j h hj => by
        rcases (by omega : j < k ∨ j = k) with h1 | rfl
        · exact hall j h h1
        · exact g
      by_cases hin : inrP ps[k]
      · rw [decide_eq_true hin] at cI
        have hg := hsucc hin
        clear hall hno hsucc hin hcell hRno
        generalize ps[k].1 = x at *
        generalize ps[k].2 = y at *
        go_wp2_with (go_at_call 36; refine Calls.mono (gw_at (cI _)) ?_; rintro e w1 ⟨rfl, q, rfl⟩)
        exact ⟨⟨k + 1, by omega, by go_num, hg, gw_gw _ _ _⟩, by (try go_num); simp [intOf]; (try omega)⟩
      · rw [decide_eq_false hin] at cI
        obtain rfl := hno hin
        clear hall hno hsucc hin hcell hRno hRyes
        generalize ps[k].1 = x at *
        generalize ps[k].2 = y at *
        go_wp2_with (go_at_call 36; refine Calls.mono (gw_at (cI _)) ?_; rintro e w1 ⟨rfl, q, rfl⟩)
        exact bodyPost_ret (v := .slice none 0 0) (by simp [results, Try.results24, go_sem]) rfl ⟨⟨_, _, rfl, Nat.le_refl _, by decide, .inl rfl⟩, (by repeat (first | with_reducible exact Below.refl _ _ | with_reducible assumption | refine bgw ?_ (by first | (simp; done) | (simp; omega) | omega) _ | refine Below.setCell ?_ (by first | exact Nat.le_of_not_lt (by assumption) | (simp; done) | (simp; omega) | omega) _ | refine Below.alloc ?_ (by first | (simp; done) | (simp; omega) | omega) _ | refine Below.drew ?_))⟩
    · obtain rfl : k = ps.length := by omega
      have i3 : ¬ (ps.length : Int) < (ps.length : Int) := by omega
      have hin : ∀ q ∈ ps, inrP q := fun q hq => by obtain ⟨j, hj, rfl⟩ := List.mem_iff_getElem.1 hq; exact hall j hj hj
      have hR2 := hRyes.out hin
      have hin2 : Hid (∀ q ∈ ps, inrP q) := hin
      have hlow : inrP (lowP ps) := hin _ (endL_mem h0 _)
      have cE := fun w' h => rends_b (some ⟨b, off, none⟩) cap ps h0 hl w' h
      clear hall hRyes hRno hin hcell
      generalize hC : colP ps = C at *
      obtain ⟨LX, LY, hLo⟩ : ∃ x y, lowP ps = (x, y) := ⟨_, _, rfl⟩
      obtain ⟨HX, HY, hHi⟩ : ∃ x y, highP ps = (x, y) := ⟨_, _, rfl⟩
      rw [hLo, hHi] at cE hR2
      rw [hLo] at hlow
      dsimp only at cE
      clear hC hLo hHi
      have hlow2 : Hid (inrP (LX, LY)) := hlow
      have hR3 : Hid ((if C = true then (if ((LX, LY) : Pt) = (HX, HY) then [(LX, LY)] else [(LX, LY), (HX, HY)]) else hloop ps (LX, LY) (ps.length + 1) (nxt ps (LX, LY)) [(LX, LY)]) = R) := hR2
      clear hR2 hlow
      cases C
      rotate_left
      · by_cases c1 : LX = HX
        · by_cases c2 : LY = HY
          · subst c1 c2
            obtain rfl : [(LX, LY)] = R := by have := hR3.out; rw [if_pos rfl, if_pos rfl] at this; exact this
            clear hR3
            go_wp2_with (go_at_call 47; refine Calls.mono (gw_at (cE _ (Pts.to ha (by repeat (first | with_reducible exact Below.refl _ _ | with_reducible assumption | refine bgw ?_ (by first | (simp; done) | (simp; omega) | omega) _ | refine Below.setCell ?_ (by first | exact Nat.le_of_not_lt (by assumption) | (simp; done) | (simp; omega) | omega) _ | refine Below.alloc ?_ (by first | (simp; done) | (simp; omega) | omega) _ | refine Below.drew ?_))))) ?_; rintro e w1 ⟨rfl, q, rfl⟩)
            exact bodyPost_ret (v := .slice (some ⟨_, 0, none⟩) 1 1) (by simp [results, Try.results24, go_sem]; rfl) rfl ⟨⟨_, _, rfl, Nat.le_refl _, by decide, pts_of_list (ps := [(LX, LY)]) (t := 27) (blk_of (c' := #[.int .i64 LX, .int .i64 LY]) (by repeat (first | with_reducible exact blk_new _ _ _ | ((with_reducible refine blk_at ?_); (simp; done)) | with_reducible apply blk_alloc | with_reducible apply blk_gw | with_reducible apply blk_drew)) rfl)⟩, (by repeat (first | with_reducible exact Below.refl _ _ | with_reducible assumption | refine bgw ?_ (by first | (simp; done) | (simp; omega) | omega) _ | refine Below.setCell ?_ (by first | exact Nat.le_of_not_lt (by assumption) | (simp; done) | (simp; omega) | omega) _ | refine Below.alloc ?_ (by first | (simp; done) | (simp; omega) | omega) _ | refine Below.drew ?_))⟩
          · have b1 : (LY == HY) = false := by rw [beq_eq_false_iff_ne]; exact c2
            subst c1
            obtain rfl : [(LX, LY), (LX, HY)] = R := by have := hR3.out; rw [if_pos rfl, if_neg (by intro e; exact c2 (congrArg Prod.snd e))] at this; exact this
            clear hR3 c2
            go_wp2_with (go_at_call 47; refine Calls.mono (gw_at (cE _ (Pts.to ha (by repeat (first | with_reducible exact Below.refl _ _ | with_reducible assumption | refine bgw ?_ (by first | (simp; done) | (simp; omega) | omega) _ | refine Below.setCell ?_ (by first | exact Nat.le_of_not_lt (by assumption) | (simp; done) | (simp; omega) | omega) _ | refine Below.alloc ?_ (by first | (simp; done) | (simp; omega) | omega) _ | refine Below.drew ?_))))) ?_; rintro e w1 ⟨rfl, q, rfl⟩)
            exact bodyPost_ret (v := .slice (some ⟨_, 0, none⟩) 2 2) (by simp [results, Try.results24, go_sem]; rfl) rfl ⟨⟨_, _, rfl, Nat.le_refl _, by decide, pts_of_list (ps := [(LX, LY), (LX, HY)]) (t := 27) (blk_of (c' := #[.int .i64 LX, .int .i64 LY, .int .i64 LX, .int .i64 HY]) (by repeat (first | with_reducible exact blk_new _ _ _ | ((with_reducible refine blk_at ?_); (simp; done)) | with_reducible apply blk_alloc | with_reducible apply blk_gw | with_reducible apply blk_drew)) rfl)⟩, (by repeat (first | with_reducible exact Below.refl _ _ | with_reducible assumption | refine bgw ?_ (by first | (simp; done) | (simp; omega) | omega) _ | refine Below.setCell ?_ (by first | exact Nat.le_of_not_lt (by assumption) | (simp; done) | (simp; omega) | omega) _ | refine Below.alloc ?_ (by first | (simp; done) | (simp; omega) | omega) _ | refine Below.drew ?_))⟩
        · have b1 : (LX == HX) = false := by rw [beq_eq_false_iff_ne]; exact c1
          obtain rfl : [(LX, LY), (HX, HY)] = R := by have := hR3.out; rw [if_pos rfl, if_neg (by intro e; exact c1 (congrArg Prod.fst e))] at this; exact this
          clear hR3 c1
          go_wp2_with (go_at_call 47; refine Calls.mono (gw_at (cE _ (Pts.to ha (by repeat (first | with_reducible exact Below.refl _ _ | with_reducible assumption | refine bgw ?_ (by first | (simp; done) | (simp; omega) | omega) _ | refine Below.setCell ?_ (by first | exact Nat.le_of_not_lt (by assumption) | (simp; done) | (simp; omega) | omega) _ | refine Below.alloc ?_ (by first | (simp; done) | (simp; omega) | omega) _ | refine Below.drew ?_))))) ?_; rintro e w1 ⟨rfl, q, rfl⟩)
          exact bodyPost_ret (v := .slice (some ⟨_, 0, none⟩) 2 2) (by simp [results, Try.results24, go_sem]; rfl) rfl ⟨⟨_, _, rfl, Nat.le_refl _, by decide, pts_of_list (ps := [(LX, LY), (HX, HY)]) (t := 27) (blk_of (c' := #[.int .i64 LX, .int .i64 LY, .int .i64 HX, .int .i64 HY]) (by repeat (first | with_reducible exact blk_new _ _ _ | ((with_reducible refine blk_at ?_); (simp; done)) | with_reducible apply blk_alloc | with_reducible apply blk_gw | with_reducible apply blk_drew)) rfl)⟩, (by repeat (first | with_reducible exact Below.refl _ _ | with_reducible assumption | refine bgw ?_ (by first | (simp; done) | (simp; omega) | omega) _ | refine Below.setCell ?_ (by first | exact Nat.le_of_not_lt (by assumption) | (simp; done) | (simp; omega) | omega) _ | refine Below.alloc ?_ (by first | (simp; done) | (simp; omega) | omega) _ | refine Below.drew ?_))⟩
      · have hR4 : Hid (hloop ps (LX, LY) (ps.length + 1) (nxt ps (LX, LY)) [(LX, LY)] = R) := by have := hR3.out; rw [if_neg (by simp)] at this; exact this
        clear hR3
        have cN := fun w' h => rnxt_b (some ⟨b, off, none⟩) cap ps LX LY hl hin2.out hlow2.out w' h
        go_upto_region 16 with (first | (go_at_call 47; refine Calls.mono (gw_at (cE _ (Pts.to ha (by repeat (first | with_reducible exact Below.refl _ _ | with_reducible assumption | refine bgw ?_ (by first | (simp; done) | (simp; omega) | omega) _ | refine Below.setCell ?_ (by first | exact Nat.le_of_not_lt (by assumption) | (simp; done) | (simp; omega) | omega) _ | refine Below.alloc ?_ (by first | (simp; done) | (simp; omega) | omega) _ | refine Below.drew ?_))))) ?_; rintro e w1 ⟨rfl, q, rfl⟩) | (go_at_call 48; refine Calls.mono (gw_at (cN _ (Pts.to ha (by repeat (first | with_reducible exact Below.refl _ _ | with_reducible assumption | refine bgw ?_ (by first | (simp; done) | (simp; omega) | omega) _ | refine Below.setCell ?_ (by first | exact Nat.le_of_not_lt (by assumption) | (simp; done) | (simp; omega) | omega) _ | refine Below.alloc ?_ (by first | (simp; done) | (simp; omega) | omega) _ | refine Below.drew ?_))))) ?_; rintro e w1 ⟨rfl, q2, rfl⟩))
        refine wp_named ?_
        intro W hW
        have kF : blk W (w.heap.size + p.os.size + q.os.size + 1) #[.int .i64 LX, .int .i64 LY] 27 := by rw [hW]; exact (by repeat (first | with_reducible exact blk_new _ _ _ | ((with_reducible refine blk_at ?_); (simp; done)) | with_reducible apply blk_alloc | with_reducible apply blk_gw | with_reducible apply blk_drew))
        have kO : blk W (w.heap.size + p.os.size + q.os.size + 1 + 1) #[.int .i64 LX, .int .i64 LY] 27 := by rw [hW]; exact (by repeat (first | with_reducible exact blk_new _ _ _ | ((with_reducible refine blk_at ?_); (simp; done)) | with_reducible apply blk_alloc | with_reducible apply blk_gw | with_reducible apply blk_drew))
        have kV : blk W (w.heap.size + p.os.size + q.os.size + 1 + 1 + 1 + q2.os.size) #[.int .i64 (nxt ps (LX, LY)).1, .int .i64 (nxt ps (LX, LY)).2] 27 := by rw [hW]; exact (by repeat (first | with_reducible exact blk_new _ _ _ | ((with_reducible refine blk_at ?_); (simp; done)) | with_reducible apply blk_alloc | with_reducible apply blk_gw | with_reducible apply blk_drew))
        have hbW : Below w.heap.size w W := by rw [hW]; exact (by repeat (first | with_reducible exact Below.refl _ _ | with_reducible assumption | refine bgw ?_ (by first | (simp; done) | (simp; omega) | omega) _ | refine Below.setCell ?_ (by first | exact Nat.le_of_not_lt (by assumption) | (simp; done) | (simp; omega) | omega) _ | refine Below.alloc ?_ (by first | (simp; done) | (simp; omega) | omega) _ | refine Below.drew ?_))
        clear hW cE cN
        have o1 : w.heap.size ≤ w.heap.size + p.os.size + q.os.size + 1 := by omega
        have o3 : w.heap.size + p.os.size + q.os.size + 1 + 1 < w.heap.size + p.os.size + q.os.size + 1 + 1 + 1 + q2.os.size := by omega
        generalize w.heap.size + p.os.size + q.os.size + 1 + 1 + 1 + q2.os.size = BV0 at *
        have o2 : w.heap.size + p.os.size + q.os.size + 1 < w.heap.size + p.os.size + q.os.size + 1 + 1 := by omega
        generalize w.heap.size + p.os.size + q.os.size + 1 + 1 = G at *
        generalize w.heap.size + p.os.size + q.os.size + 1 = BF at *
        have hGW : G ≤ W.heap.size := by have := blk_lt kV; omega
        have hown0 : W.ownsRow G 27 2 (.slice (some ⟨G, 0, none⟩) 1 1) 1 (pv [(LX, LY)]) := owns_lit2 kO rfl (Nat.le_refl _) (by decide)
        clear kO
        go_loopw [7, 8] (fun o vp wr => ∃ (L : List Pt) (v : Pt) (BV : Nat), 1 ≤ L.length ∧ L.length ≤ ps.length + 1 ∧ wr.ownsRow G 27 2 o L.length (pv L) ∧ vp = .pointer (some ⟨BV, 0, none⟩) ∧ blk wr BV #[.int .i64 v.1, .int .i64 v.2] 27 ∧ o.ownBlock ≠ some BV ∧ w.heap.size ≤ BV ∧ Hid (hloop ps (LX, LY) (ps.length + 2 - L.length) v L = R) ∧ Hid (inrP v) ∧ blk wr BF #[.int .i64 LX, .int .i64 LY] 27 ∧ G ≤ wr.heap.size ∧ Below w.heap.size w wr)
          (fun o _ _ => ps.length + 2 - lenOf o)
        case atStart => exact ⟨[(LX, LY)], nxt ps (LX, LY), BV0, by simp, by simp, hown0, rfl, kV, by simp [Value.ownBlock]; omega, by omega, hR4.out, nxt_inr hin2.out hlow2.out, kF, hGW, hbW⟩
        case round =>
          obtain ⟨L, v, BV, hL1, hL2, hown, rfl, kV, hne, hBV, hh, hvin, kF, hGR, hbR⟩ := hrel
          obtain ⟨A', cap', rfl, -, hcap, hmax, hPL⟩ := owns_pts hown
          obtain ⟨vx, vy⟩ := v
          dsimp only at kV
          have hszR := hbR.size
          have okV := blk_older kV
          have ckV_0 : _ = some _ := blk_cell kV 0
          have ckV_1 : _ = some _ := blk_cell kV 1
          have fkV_0 := blk_free kV 0
          have fkV_1 := blk_free kV 1
          have okF := blk_older kF
          have ckF_0 : _ = some _ := blk_cell kF 0
          have ckF_1 : _ = some _ := blk_cell kF 1
          have fkF_0 := blk_free kF 0
          have fkF_1 := blk_free kF 1
          by_cases c : vx = LX ∧ vy = LY
          · have b0 : (vx == LX) = true := by rw [beq_iff_eq]; exact c.1
            have b1 : (vy == LY) = true := by rw [beq_iff_eq]; exact c.2
            obtain rfl : L = R := by have := hh.out; rw [hloop_stop (fun e => e.1 (Prod.ext c.1 c.2))] at this; exact this
            clear hh c
            go_wp2_with fail
            exact bodyPost_ret (v := .slice A' L.length cap') (by simp [results, Try.results24, go_sem]) rfl ⟨⟨_, _, rfl, hcap, hmax, hPL⟩, (by repeat (first | with_reducible exact Below.refl _ _ | with_reducible assumption | refine bgw ?_ (by first | (simp; done) | (simp; omega) | omega) _ | refine Below.setCell ?_ (by first | exact Nat.le_of_not_lt (by assumption) | (simp; done) | (simp; omega) | omega) _ | refine Below.alloc ?_ (by first | (simp; done) | (simp; omega) | omega) _ | refine Below.drew ?_))⟩
          have hvne : ((vx == LX) = true ∧ (vy == LY) = false) ∨ (vx == LX) = false := by
            by_cases c1 : vx = LX
            · exact .inl ⟨by rw [beq_iff_eq]; exact c1, by rw [beq_eq_false_iff_ne]; exact fun c2 => c ⟨c1, c2⟩⟩
            · exact .inr (by rw [beq_eq_false_iff_ne]; exact c1)
          by_cases hle : L.length ≤ ps.length
          rotate_left
          · have j1 : ¬ (L.length : Int) ≤ (ps.length : Int) := by omega
            obtain rfl : L = R := by have := hh.out; rw [hloop_stop (fun e => hle e.2)] at this; exact this
            clear hh c
            rcases hvne with ⟨b0, b1⟩ | b1
            all_goals
              go_wp2_with fail
              exact bodyPost_ret (v := .slice A' L.length cap') (by simp [results, Try.results24, go_sem]) rfl ⟨⟨_, _, rfl, hcap, hmax, hPL⟩, (by repeat (first | with_reducible exact Below.refl _ _ | with_reducible assumption | refine bgw ?_ (by first | (simp; done) | (simp; omega) | omega) _ | refine Below.setCell ?_ (by first | exact Nat.le_of_not_lt (by assumption) | (simp; done) | (simp; omega) | omega) _ | refine Below.alloc ?_ (by first | (simp; done) | (simp; omega) | omega) _ | refine Below.drew ?_))⟩
          · have j1 : (L.length : Int) ≤ (ps.length : Int) := by omega
            have hh2 : Hid (hloop ps (LX, LY) (ps.length + 2 - (L.length + 1)) (nxt ps (vx, vy)) (L ++ [(vx, vy)]) = R) := by
              have := hh.out
              rw [show ps.length + 2 - L.length = (ps.length + 2 - (L.length + 1)) + 1 from by omega, hloop_go (fun e => c ⟨congrArg Prod.fst e, congrArg Prod.snd e⟩) hle] at this
              exact this
            obtain ⟨i0, hi, hz0, hz1, hz2⟩ := info_parts info_vec
            have hlt := World.ownsRow.lt hown
            have hn64 : L.length ≤ 64 := by omega
            clear hh c hPL
            rcases hvne with ⟨b0, b1⟩ | b1
            all_goals
              go_upto_region 19 with (at_builtin; refine wpList_app2 rfl _ _ 22 rfl G 27 i0 (.agg #[.int .i64 0, .int .i64 0]) 16 Try.underlying22 hi hz0 hz1 hz2 rfl _ _ _ rfl (owns_below hown (by repeat (first | with_reducible exact Below.refl _ _ | with_reducible assumption | refine bgw ?_ (by first | (simp; done) | (simp; omega) | omega) _ | refine Below.setCell ?_ (by first | exact Nat.le_of_not_lt (by assumption) | (simp; done) | (simp; omega) | omega) _ | refine Below.alloc ?_ (by first | (simp; done) | (simp; omega) | omega) _ | refine Below.drew ?_))) _ (.int .i64 vx) (.int .i64 vy) 27 rfl (by repeat (first | with_reducible exact blk_new _ _ _ | ((with_reducible refine blk_at ?_); (simp; done)) | with_reducible apply blk_alloc | with_reducible apply blk_gw | with_reducible apply blk_drew)) rfl rfl (by unfold maxLen; omega) (by omega) (by first | (simp; omega) | omega) ?_; intro v' w2 hown2 hb2 hg2 ho2)
            all_goals
              have hkV : blk w2 BV #[.int .i64 vx, .int .i64 vy] 27 := blk_grown hg2 (blk_alloc kV) hne
              have hkF : blk w2 BF #[.int .i64 LX, .int .i64 LY] 27 := blk_grown hg2 (blk_alloc kF) (fun e => by have := (hlt _ e).1; omega)
              have hs2 : wr.heap.size + 1 ≤ w2.heap.size := by have := hg2.size; simpa using this
              have hbW2 : Below w.heap.size w w2 := Below.trans (Below.alloc hbR hszR _) (hb2.mono (by omega))
              have hown3 : w2.ownsRow G 27 2 v' (L ++ [(vx, vy)]).length (pv (L ++ [(vx, vy)])) := by rw [pv_append, List.length_append]; exact hown2
              obtain ⟨A2, cap2, rfl, -, -, -, -⟩ := owns_pts hown3
              have hlt2 := World.ownsRow.lt hown3
              have hne2 : (Value.slice A2 (L ++ [(vx, vy)]).length cap2).ownBlock ≠ some w2.heap.size := fun e => by have := (hlt2 _ e).2; omega
              have hL4 : (L ++ [(vx, vy)]).length = L.length + 1 := by simp
              have hL3 : 1 ≤ (L ++ [(vx, vy)]).length ∧ (L ++ [(vx, vy)]).length ≤ ps.length + 1 := by omega
              have hh3 : Hid (hloop ps (LX, LY) (ps.length + 2 - (L ++ [(vx, vy)]).length) (nxt ps (vx, vy)) (L ++ [(vx, vy)]) = R) := by rw [hL4]; exact hh2
              have hmeas : Hid (ps.length + 2 - (L ++ [(vx, vy)]).length < ps.length + 2 - L.length) := by show _ < _; omega
              have hlen3 : (L ++ [(vx, vy)]).length ≤ 65 := by omega
              clear hg2 ho2 hb2 hown2 hlt hlt2 hL4 hh2 ckV_0 ckV_1 fkV_0 fkV_1 okV ckF_0 ckF_1 fkF_0 fkF_1 okF hown kV kF hne
              have cN := fun w' h => rnxt_b (some ⟨b, off, none⟩) cap ps vx vy hl hin2.out hvin.out w' h
              have hnv : Hid (inrP (nxt ps (vx, vy))) := nxt_inr hin2.out hvin.out
              generalize L ++ [(vx, vy)] = L' at *
              generalize nxt ps (vx, vy) = nv at *
              have ohkV := blk_older hkV
              have chkV_0 : _ = some _ := blk_cell hkV 0
              have chkV_1 : _ = some _ := blk_cell hkV 1
              have fhkV_0 := blk_free hkV 0
              have fhkV_1 := blk_free hkV 1
              have ohkF := blk_older hkF
              have chkF_0 : _ = some _ := blk_cell hkF 0
              have chkF_1 : _ = some _ := blk_cell hkF 1
              have fhkF_0 := blk_free hkF 0
              have fhkF_1 := blk_free hkF 1
              have hszw := hbW2.size
              go_wp2_with (go_at_call 48; refine Calls.mono (gw_at (cN _ (Pts.to ha (by repeat (first | with_reducible exact Below.refl _ _ | with_reducible assumption | refine bgw ?_ (by first | (simp; done) | (simp; omega) | omega) _ | refine Below.setCell ?_ (by first | exact Nat.le_of_not_lt (by assumption) | (simp; done) | (simp; omega) | omega) _ | refine Below.alloc ?_ (by first | (simp; done) | (simp; omega) | omega) _ | refine Below.drew ?_))))) ?_; rintro e w1 ⟨rfl, q, rfl⟩)
              have hGw : G ≤ w2.heap.size := by omega
              exact ⟨⟨L', nv, w2.heap.size, hL3.1, hL3.2, owns_below hown3 (by repeat (first | with_reducible exact Below.refl _ _ | with_reducible assumption | refine bgw ?_ (by first | (simp; done) | (simp; omega) | omega) _ | refine Below.setCell ?_ (by first | exact Nat.le_of_not_lt (by assumption) | (simp; done) | (simp; omega) | omega) _ | refine Below.alloc ?_ (by first | (simp; done) | (simp; omega) | omega) _ | refine Below.drew ?_)), rfl, (by repeat (first | with_reducible exact blk_new _ _ _ | ((with_reducible refine blk_at ?_); (simp; done)) | with_reducible apply blk_alloc | with_reducible apply blk_gw | with_reducible apply blk_drew)), hne2, hszw, hh3, hnv, blk_gw (blk_alloc hkF), by simp; omega, Below.trans hbW2 (by repeat (first | with_reducible exact Below.refl _ _ | with_reducible assumption | refine bgw ?_ (by first | (simp; done) | (simp; omega) | omega) _ | refine Below.setCell ?_ (by first | exact Nat.le_of_not_lt (by assumption) | (simp; done) | (simp; omega) | omega) _ | refine Below.alloc ?_ (by first | (simp; done) | (simp; omega) | omega) _ | refine Below.drew ?_))⟩, hmeas.out⟩

end Go.Proofs.Ytncijpaooiopfaa
