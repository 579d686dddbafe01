/- Package polygon, the landed code: edge, inRange, isOutermost, IsConvex. -/
import Derived.Test.YtncijpaooiopfaaPgM
set_option linter.unusedVariables false
namespace Go.Proofs.Ytncijpaooiopfaa
open Go.RowKit Fx

set_option maxRecDepth 100000 in
set_option maxHeartbeats 8000000 in
theorem xedge_b (A : Option Addr) (cap : Nat) (ps : List (Int × Int)) (i : Nat) (hi : i < ps.length) (hl : ps.length ≤ 4611686018427387904) (w : World) (ha : Pts w A ps) : Calls Try.prog 33 #[.slice A ps.length cap, .int .i64 (i : Int)] w fun e w' => e = .returned (.tuple #[.agg #[.int .i64 (hp' ps i).1, .int .i64 (hp' ps i).2], .agg #[.int .i64 (hp' ps (i + 1)).1, .int .i64 (hp' ps (i + 1)).2]]) ∧ Below w.heap.size w w' := by
  have hmod := Nat.mod_lt (i + 1) (show 0 < ps.length by omega)
  have hm : ((i : Int) + 1).tmod (ps.length : Int) = (((i + 1) % ps.length : Nat) : Int) := next_mod
  have hnz : ((ps.length : Int) == 0) = false := by rw [beq_eq_false_iff_ne]; omega
  rw [← hp_mod ps (i + 1)]
  generalize (i + 1) % ps.length = nx at *
  rw [hp_get hi, hp_get hmod]
  have i0 : (0 : Int) ≤ (i : Int) := by omega
  have i1 : (i : Int) < (ps.length : Int) := by omega
  have x0 : (0 : Int) ≤ (nx : Int) := by omega
  have x1 : (nx : Int) < (ps.length : Int) := by omega
  have i4 : IntKind.i64.wrap ((i : Int) + 1) = (i : Int) + 1 := by rw [IntKind.wrap_i64]; omega
  have hw5 : wrap64 ((i : Int) + 1) = (i : Int) + 1 := by unfold wrap64; omega
  obtain ⟨b, off, rfl, hc0⟩ := pts_open0 ha (by omega)
  have hcellB : ∀ w', Below w.heap.size w w' → Below w.heap.size w w' ∧ w'.cell? ⟨b, off + i * 2, none⟩ = some (.int .i64 ps[i].1) ∧ w'.cell? ⟨b, off + i * 2 + 1, none⟩ = some (.int .i64 ps[i].2) ∧ w'.cell? ⟨b, off + nx * 2, none⟩ = some (.int .i64 ps[nx].1) ∧ w'.cell? ⟨b, off + nx * 2 + 1, none⟩ = some (.int .i64 ps[nx].2) := fun w' hb => by
    obtain ⟨b', off', e, hc⟩ := pts_open0 (Pts.to ha hb) (by omega)
    cases e
    exact ⟨hb, (hc i hi).1, (hc i hi).2, (hc nx hmod).1, (hc nx hmod).2⟩
  clear hc0 ha
  generalize ps[i].1 = xi at *
  generalize ps[i].2 = yi at *
  generalize ps[nx].1 = xn at *
  generalize ps[nx].2 = yn at *
  generalize ps.length = n at *
  have z1 : ¬ (n : Int) = 0 := by omega
  have z2 : ¬ n = 0 := by omega
  go_enter Try.func33, Try.ntmps33
  go_upto_region 1 with fail
  refine wp_named ?_
  intro W hW
  have kR : blk W w.heap.size #[.int .i64 0, .int .i64 0] 27 := by rw [hW]; exact (by repeat (first | with_reducible exact blk_new _ _ _ | ((with_reducible refine blk_at ?_); (simp; done)) | with_reducible apply blk_alloc | with_reducible apply blk_gw | with_reducible apply blk_drew))
  have kS : blk W (w.heap.size + 1) #[.int .i64 0, .int .i64 0] 27 := by rw [hW]; exact (by repeat (first | with_reducible exact blk_new _ _ _ | ((with_reducible refine blk_at ?_); (simp; done)) | with_reducible apply blk_alloc | with_reducible apply blk_gw | with_reducible apply blk_drew))
  have hbW : Below w.heap.size w W := by rw [hW]; exact (by repeat (first | with_reducible exact Below.refl _ _ | with_reducible assumption | refine bgw ?_ (by first | (simp; done) | (simp; omega) | omega) _ | refine Below.setCell ?_ (by first | exact Nat.le_of_not_lt (by assumption) | (simp; done) | (simp; omega) | omega) _ | refine Below.alloc ?_ (by first | (simp; done) | (simp; omega) | omega) _ | refine Below.drew ?_))
  have hzW : w.heap.size + 1 < W.heap.size := by rw [hW]; simp
  clear hW
  have hszW := hbW.size
  obtain ⟨-, c0, c1, d0, d1⟩ := hcellB _ hbW
  have okR := blk_older kR
  have ckR_0 : _ = some _ := blk_cell kR 0
  have ckR_1 : _ = some _ := blk_cell kR 1
  have fkR_0 := blk_free kR 0
  have fkR_1 := blk_free kR 1
  have okS := blk_older kS
  have ckS_0 : _ = some _ := blk_cell kS 0
  have ckS_1 : _ = some _ := blk_cell kS 1
  have fkS_0 := blk_free kS 0
  have fkS_1 := blk_free kS 1
  go_region_held3 (fun w' => Below w.heap.size w w' ∧ w'.cell? ⟨b, off + i * 2, none⟩ = some (.int .i64 xi) ∧ w'.cell? ⟨b, off + i * 2 + 1, none⟩ = some (.int .i64 yi) ∧ w'.cell? ⟨b, off + nx * 2, none⟩ = some (.int .i64 xn) ∧ w'.cell? ⟨b, off + nx * 2 + 1, none⟩ = some (.int .i64 yn)) (first | (refine hcellB _ ?_; exact (by repeat (first | with_reducible exact Below.refl _ _ | with_reducible assumption | refine bgw ?_ (by first | (simp; done) | (simp; omega) | omega) _ | refine Below.setCell ?_ (by first | exact Nat.le_of_not_lt (by assumption) | (simp; done) | (simp; omega) | omega) _ | refine Below.alloc ?_ (by first | (simp; done) | (simp; omega) | omega) _ | refine Below.drew ?_)))) (fail)
  all_goals
    go_wp2_with fail
  all_goals
    refine post_nmd ?_
    intro Z hZ
    have kZ : blk Z w.heap.size #[.int .i64 xi, .int .i64 yi] 27 := by rw [hZ]; exact (by apply blk_of; (repeat (first | with_reducible exact kR | with_reducible apply blk_drew | with_reducible apply blk_gw | with_reducible apply blk_alloc | with_reducible apply blk_set | ((with_reducible apply blk_other); focus omega))); (first | rfl | simp))
    have kY : blk Z (w.heap.size + 1) #[.int .i64 xn, .int .i64 yn] 27 := by rw [hZ]; exact (by apply blk_of; (repeat (first | with_reducible exact kS | with_reducible apply blk_drew | with_reducible apply blk_gw | with_reducible apply blk_alloc | with_reducible apply blk_set | ((with_reducible apply blk_other); focus omega))); (first | rfl | simp))
    have hbZ : Below w.heap.size w Z := by rw [hZ]; exact (by repeat (first | with_reducible exact Below.refl _ _ | with_reducible assumption | refine bgw ?_ (by first | (simp; done) | (simp; omega) | omega) _ | refine Below.setCell ?_ (by first | exact Nat.le_of_not_lt (by assumption) | (simp; done) | (simp; omega) | omega) _ | refine Below.alloc ?_ (by first | (simp; done) | (simp; omega) | omega) _ | refine Below.drew ?_))
    clear hZ
    have okZ := blk_older kZ
    have ckZ_0 : _ = some _ := blk_cell kZ 0
    have ckZ_1 : _ = some _ := blk_cell kZ 1
    have fkZ_0 := blk_free kZ 0
    have fkZ_1 := blk_free kZ 1
    have okY := blk_older kY
    have ckY_0 : _ = some _ := blk_cell kY 0
    have ckY_1 : _ = some _ := blk_cell kY 1
    have fkY_0 := blk_free kY 0
    have fkY_1 := blk_free kY 1
    exact bodyPost_ret (v := .tuple #[.agg #[.int .i64 xi, .int .i64 yi], .agg #[.int .i64 xn, .int .i64 yn]]) (by simp [results, Try.results33, go_sem, ckZ_0, ckZ_1, ckY_0, ckY_1]) rfl ⟨rfl, hbZ⟩

set_option maxHeartbeats 4000000 in
theorem xinr_b (A : Option Addr) (cap : Nat) (ps : List (Int × Int)) (h0 : 0 < ps.length) (hl : ps.length ≤ 4611686018427387904) (hk : ps.length ≤ cap) (w : World) (ha : Pts w A ps) : Calls Try.prog 27 #[.slice A ps.length cap] w fun e w' => e = .returned (.bool (allIn ps)) ∧ Below w.heap.size w w' := by
  have cF := fun w' h => xfp_b A cap ps w' h hl hk
  have cC := fun w' => xcon_b (-1048576) (-1048576) 1048576 1048576 (Bx.pts ps).x0 (Bx.pts ps).y0 (Bx.pts ps).x1 (Bx.pts ps).y1 w'
  rw [box_in h0] at cC
  rw [decide_eq_true h0] at cF
  generalize allIn ps = R at *
  generalize (Bx.pts ps).x0 = x0 at *
  generalize (Bx.pts ps).y0 = y0 at *
  generalize (Bx.pts ps).x1 = x1 at *
  generalize (Bx.pts ps).y1 = y1 at *
  go_enter Try.func27, Try.ntmps27
  go_wp2_with (first | (go_at_call 50; refine Calls.mono (gw_at (cF _ (Pts.to ha (by repeat (first | with_reducible exact Below.refl _ _ | with_reducible assumption | refine bgw ?_ (by first | (simp; done) | (simp; omega) | omega) _ | refine Below.setCell ?_ (by first | exact Nat.le_of_not_lt (by assumption) | (simp; done) | (simp; omega) | omega) _ | refine Below.alloc ?_ (by first | (simp; done) | (simp; omega) | omega) _ | refine Below.drew ?_))))) ?_; rintro e w1 ⟨rfl, q, rfl⟩) | (go_at_call 51; refine Calls.mono (gw_at (cC _)) ?_; rintro e w1 ⟨rfl, q2, rfl⟩))
  go_ret
  exact ⟨rfl, (by repeat (first | with_reducible exact Below.refl _ _ | with_reducible assumption | refine bgw ?_ (by first | (simp; done) | (simp; omega) | omega) _ | refine Below.setCell ?_ (by first | exact Nat.le_of_not_lt (by assumption) | (simp; done) | (simp; omega) | omega) _ | refine Below.alloc ?_ (by first | (simp; done) | (simp; omega) | omega) _ | refine Below.drew ?_))⟩

def outP (ps : List Pt) (i : Nat) : Prop := ∀ s, 2 ≤ s → s < ps.length → or3 (hp' ps i) (hp' ps (i + 1)) (hp' ps (i + s)) = 1
noncomputable def outB (ps : List Pt) (i : Nat) : Bool := @decide (outP ps i) (Classical.propDecidable _)
theorem outB_iff {ps : List Pt} {i : Nat} : outB ps i = true ↔ outP ps i := by unfold outB; exact @decide_eq_true_iff _ (Classical.propDecidable _)
theorem outP_row {ps : List Pt} {i : Nat} (hi : i < ps.length) : outP ps i ↔ ∀ k, k < ps.length → rowok ps i k := by
  constructor
  · intro h k hk
    unfold rowok
    by_cases h0 : k = i
    · exact .inl h0
    by_cases h1 : k = (i + 1) % ps.length
    · exact .inr (.inl h1)
    · refine .inr (.inr ?_)
      by_cases hik : i < k
      · have h2 : k ≠ i + 1 := fun e => h1 (by rw [e, Nat.mod_eq_of_lt (by omega)])
        have := h (k - i) (by omega) (by omega)
        rwa [show i + (k - i) = k from by omega] at this
      · have h2 : ¬ (k = 0 ∧ i + 1 = ps.length) := fun e => h1 (by rw [e.2, Nat.mod_self, e.1])
        have := h (k + ps.length - i) (by omega) (by omega)
        rwa [show i + (k + ps.length - i) = k + ps.length from by omega, hp_add] at this
  · intro h s h2 hs
    have hk := Nat.mod_lt (i + s) (show 0 < ps.length by omega)
    have := h _ hk
    unfold rowok at this
    rw [hp_mod] at this
    have hv : (i + s) % ps.length = i + s ∨ (i + s) % ps.length + ps.length = i + s := by
      by_cases c : i + s < ps.length
      · exact .inl (Nat.mod_eq_of_lt c)
      · exact .inr (by rw [Nat.mod_eq_sub_mod (by omega), Nat.mod_eq_of_lt (by omega)]; omega)
    have hv1 : (i + 1) % ps.length = i + 1 ∨ ((i + 1) % ps.length = 0 ∧ i + 1 = ps.length) := by
      by_cases c : i + 1 < ps.length
      · exact .inl (Nat.mod_eq_of_lt c)
      · have : i + 1 = ps.length := by omega
        exact .inr ⟨by rw [this, Nat.mod_self], this⟩
    generalize (i + s) % ps.length = m at *
    generalize (i + 1) % ps.length = m1 at *
    rcases this with h | h | h
    · exact absurd h (by omega)
    · exact absurd h (by omega)
    · exact h

set_option maxRecDepth 100000 in
set_option maxHeartbeats 8000000 in
theorem xout_b (A : Option Addr) (cap : Nat) (ps : List (Int × Int)) (i : Nat) (hi : i < ps.length) (h3 : 3 ≤ ps.length) (h8 : ps.length ≤ 8) (w : World) (ha : Pts w A ps) : Calls Try.prog 35 #[.slice A ps.length cap, .int .i64 (i : Int)] w fun e w' => e = .returned (.bool (outB ps i)) ∧ Below w.heap.size w w' := by
  obtain ⟨R, hR⟩ : ∃ R, outB ps i = R := ⟨_, rfl⟩
  have hR1 : Hid (R = true ↔ outP ps i) := by show _ ↔ _; rw [← hR]; exact outB_iff
  rw [hR]
  clear hR
  have cE := fun w' h => xedge_b A cap ps i hi (by omega) w' h
  have hP : Hid (outP ps i ↔ ∀ s, 2 ≤ s → s < ps.length → or3 (hp' ps i) (hp' ps (i + 1)) (hp' ps (i + s)) = 1) := Iff.rfl
  obtain ⟨F, hF⟩ : ∃ F, hp' ps i = F := ⟨_, rfl⟩
  obtain ⟨T, hT⟩ : ∃ T, hp' ps (i + 1) = T := ⟨_, rfl⟩
  rw [hF, hT] at hP cE
  clear hF hT
  obtain ⟨fx, fy⟩ := F
  obtain ⟨tx, ty⟩ := T
  dsimp only at cE
  have n0 : (0 : Int) < (ps.length : Int) := by omega
  have n8 : (ps.length : Int) ≤ 8 := by omega
  have i0 : (0 : Int) ≤ (i : Int) := by omega
  have i8 : (i : Int) < 8 := by omega
  obtain ⟨b, off, rfl, -⟩ := pts_open0 ha (by omega)
  go_enter Try.func35, Try.ntmps35
  go_upto_region 2 with (go_at_call 33; refine Calls.mono (gw_at (cE _ (Pts.to ha (by repeat (first | with_reducible exact Below.refl _ _ | with_reducible assumption | refine bgw ?_ (by first | (simp; done) | (simp; omega) | omega) _ | refine Below.setCell ?_ (by first | exact Nat.le_of_not_lt (by assumption) | (simp; done) | (simp; omega) | omega) _ | refine Below.alloc ?_ (by first | (simp; done) | (simp; omega) | omega) _ | refine Below.drew ?_))))) ?_; rintro e w1 ⟨rfl, q, rfl⟩)
  refine wp_named ?_
  intro W hW
  have kF : blk W (w.heap.size + q.os.size) #[.int .i64 fx, .int .i64 fy] 27 := by rw [hW]; exact (by repeat (first | with_reducible exact blk_new _ _ _ | ((with_reducible refine blk_at ?_); (simp; done)) | with_reducible apply blk_alloc | with_reducible apply blk_gw | with_reducible apply blk_drew))
  have kT : blk W (w.heap.size + q.os.size + 1) #[.int .i64 tx, .int .i64 ty] 27 := by rw [hW]; exact (by repeat (first | with_reducible exact blk_new _ _ _ | ((with_reducible refine blk_at ?_); (simp; done)) | with_reducible apply blk_alloc | with_reducible apply blk_gw | with_reducible apply blk_drew))
  have hbW : Below w.heap.size w W := by rw [hW]; exact (by repeat (first | with_reducible exact Below.refl _ _ | with_reducible assumption | refine bgw ?_ (by first | (simp; done) | (simp; omega) | omega) _ | refine Below.setCell ?_ (by first | exact Nat.le_of_not_lt (by assumption) | (simp; done) | (simp; omega) | omega) _ | refine Below.alloc ?_ (by first | (simp; done) | (simp; omega) | omega) _ | refine Below.drew ?_))
  clear hW cE
  generalize w.heap.size + q.os.size + 1 = BT at *
  generalize w.heap.size + q.os.size = BF at *
  have hcell2 : ∀ w' (i : Nat) (h : i < ps.length), Below W.heap.size W w' → w'.cell? ⟨b, off + i * 2, none⟩ = some (.int .i64 ps[i].1) ∧ w'.cell? ⟨b, off + i * 2 + 1, none⟩ = some (.int .i64 ps[i].2) := fun w' i h hb => by
    obtain ⟨b', off', e, hc⟩ := pts_open0 (Pts.to ha (Below.trans hbW (hb.mono hbW.size))) (by omega)
    cases e
    exact hc i h
  go_wp2_with fail
  go_loopw [7] (fun i_ wr => ∃ s : Nat, 2 ≤ s ∧ s ≤ ps.length ∧ i_ = .int .i64 (s : Int) ∧ Hid (∀ t, 2 ≤ t → t < s → or3 (fx, fy) (tx, ty) (hp' ps (i + t)) = 1) ∧ ∃ p, wr = gw W p)
    (fun i_ _ => (ps.length - intOf i_).toNat)
  case atStart => exact ⟨2, by omega, by omega, rfl, fun t h h' => absurd h (by omega), ⟨⟨W.drawn, #[]⟩, (gw_zero W).symm⟩⟩
  case round =>
    obtain ⟨s, hs2, hs, rfl, hall, p, rfl⟩ := hrel
    have hszW := hbW.size
    have kF2 := blk_gw (p := p) kF
    have kT2 := blk_gw (p := p) kT
    have okF2 := blk_older kF2
    have ckF2_0 : _ = some _ := blk_cell kF2 0
    have ckF2_1 : _ = some _ := blk_cell kF2 1
    have fkF2_0 := blk_free kF2 0
    have fkF2_1 := blk_free kF2 1
    have okT2 := blk_older kT2
    have ckT2_0 : _ = some _ := blk_cell kT2 0
    have ckT2_1 : _ = some _ := blk_cell kT2 1
    have fkT2_0 := blk_free kT2 0
    have fkT2_1 := blk_free kT2 1
    by_cases hlt : s < ps.length
    · have s0 : (0 : Int) ≤ (s : Int) := by omega
      have s1 : (s : Int) < (ps.length : Int) := by omega
      have hmod := Nat.mod_lt (i + s) (show 0 < ps.length by omega)
      have hm : ((i : Int) + (s : Int)).tmod (ps.length : Int) = (((i + s) % ps.length : Nat) : Int) := by
        rw [show (i : Int) + (s : Int) = ((i + s : Nat) : Int) from by omega]; first | exact (Int.ofNat_tmod _ _).symm | exact (Int.natCast_tmod _ _).symm | (rw [Int.tmod_eq_emod_of_nonneg (by omega)]; exact (Int.natCast_emod _ _).symm)
      have hnz : ((ps.length : Int) == 0) = false := by rw [beq_eq_false_iff_ne]; omega
      have hyes : or3 (fx, fy) (tx, ty) (hp' ps (i + s)) = 1 → Hid (∀ t, 2 ≤ t → t < s + 1 → or3 (fx, fy) (tx, ty) (hp' ps (i + t)) = 1) := fun g t h h' => by
        rcases (by omega : t < s ∨ t = s) with h1 | rfl
        · exact hall.out t h h1
        · exact g
      have hno : or3 (fx, fy) (tx, ty) (hp' ps (i + s)) ≠ 1 → R = false := fun g => by
        rw [Bool.eq_false_iff]; intro e; exact g ((hP.out.1 (hR1.out.1 e)) s hs2 hlt)
      have cO : ∀ w', Calls Try.prog 34 #[.agg #[.int .i64 fx, .int .i64 fy], .agg #[.int .i64 tx, .int .i64 ty], .agg #[.int .i64 (hp' ps (i + s)).1, .int .i64 (hp' ps (i + s)).2]] w' fun e w'' => e = .returned (.int .i64 (or3 (fx, fy) (tx, ty) (hp' ps (i + s)))) ∧ Below w'.heap.size w' w'' := fun w' => orient_b _ _ _ _ _ _ w'
      rw [← hp_mod ps (i + s)] at hyes hno cO
      generalize (i + s) % ps.length = nx at *
      rw [hp_get hmod] at hyes hno cO
      have x0 : (0 : Int) ≤ (nx : Int) := by omega
      have x1 : (nx : Int) < (ps.length : Int) := by omega
      obtain ⟨d0, d1⟩ := hcell2 _ nx hmod (below_gw W p)
      have ob := older_of_cell d0
      clear hcell2 hall hR1 hP
      generalize or3 (fx, fy) (tx, ty) ps[nx] = O at *
      generalize ps[nx].1 = xn at *
      generalize ps[nx].2 = yn at *
      by_cases c : O = 1
      · have hg := hyes c
        have b1 : (O != 1) = false := by rw [bne_eq_false_iff_eq]; exact c
        clear hyes hno c
        go_wp2_with fail
        refine wp_region_gw (by kernel_rfl) (by kernel_rfl) ?_
        repeat (go_big_quiet_step ((go_at_call 34; exact gw_call (cO _))))
        refine wpQuiet_nil ?_
        intro w1 hw1
        obtain ⟨q, rfl⟩ := hw1
        go_wp2_with fail
        exact ⟨⟨s + 1, by omega, by omega, by go_num, hg, gw_gw _ _ _⟩, by (try go_num); simp [intOf]; (try omega)⟩
      · obtain rfl := hno c
        have b1 : (O != 1) = true := by rw [bne_iff_ne]; exact c
        clear hyes hno c
        go_wp2_with fail
        refine wp_region_gw (by kernel_rfl) (by kernel_rfl) ?_
        repeat (go_big_quiet_step ((go_at_call 34; exact gw_call (cO _))))
        refine wpQuiet_nil ?_
        intro w1 hw1
        obtain ⟨q, rfl⟩ := hw1
        go_wp2_with fail
        go_ret
        exact ⟨rfl, (by repeat (first | with_reducible exact Below.refl _ _ | with_reducible assumption | refine bgw ?_ (by first | (simp; done) | (simp; omega) | omega) _ | refine Below.setCell ?_ (by first | exact Nat.le_of_not_lt (by assumption) | (simp; done) | (simp; omega) | omega) _ | refine Below.alloc ?_ (by first | (simp; done) | (simp; omega) | omega) _ | refine Below.drew ?_))⟩
    · obtain rfl : s = ps.length := by omega
      have s1 : ¬ (ps.length : Int) < (ps.length : Int) := by omega
      obtain rfl : R = true := hR1.out.2 (hP.out.2 fun t h h' => hall.out t h h')
      clear hcell2 hall hR1 hP
      go_wp2_with fail
      go_ret
      exact ⟨rfl, (by repeat (first | with_reducible exact Below.refl _ _ | with_reducible assumption | refine bgw ?_ (by first | (simp; done) | (simp; omega) | omega) _ | refine Below.setCell ?_ (by first | exact Nat.le_of_not_lt (by assumption) | (simp; done) | (simp; omega) | omega) _ | refine Below.alloc ?_ (by first | (simp; done) | (simp; omega) | omega) _ | refine Below.drew ?_))⟩

set_option maxHeartbeats 8000000 in
theorem xconv_b (A : Option Addr) (cap : Nat) (ps : List (Int × Int)) (hl : ps.length ≤ 4611686018427387904) (w : World) (ha : Pts w A ps) (hk : ps.length ≤ cap := by first | omega | decide) : Calls Try.prog 13 #[.slice A ps.length cap] w fun e w' => e = .returned (.bool (cvx ps)) ∧ Below w.heap.size w w' := by
  obtain ⟨R, hR⟩ : ∃ R, cvx ps = R := ⟨_, rfl⟩
  rw [hR]
  by_cases n3 : ps.length < 3
  focus
    obtain rfl : R = false := hR.symm.trans (cvx_no fun h => by have := h.1; omega)
    have n3' : (ps.length : Int) < 3 := by omega
    clear hR n3
    generalize ps.length = n at *
    go_enter Try.func13, Try.ntmps13
    go_wp2_with fail
    go_ret
    exact ⟨rfl, (by repeat (first | with_reducible exact Below.refl _ _ | with_reducible assumption | refine bgw ?_ (by first | (simp; done) | (simp; omega) | omega) _ | refine Below.setCell ?_ (by first | exact Nat.le_of_not_lt (by assumption) | (simp; done) | (simp; omega) | omega) _ | refine Below.alloc ?_ (by first | (simp; done) | (simp; omega) | omega) _ | refine Below.drew ?_))⟩
  have n3' : ¬ (ps.length : Int) < 3 := by omega
  by_cases n8 : 8 < ps.length
  focus
    obtain rfl : R = false := hR.symm.trans (cvx_no fun h => by have := h.2.1; omega)
    have n8' : (8 : Int) < (ps.length : Int) := by omega
    clear hR n3 n8
    go_enter Try.func13, Try.ntmps13
    go_wp2_with fail
    go_ret
    exact ⟨rfl, (by repeat (first | with_reducible exact Below.refl _ _ | with_reducible assumption | refine bgw ?_ (by first | (simp; done) | (simp; omega) | omega) _ | refine Below.setCell ?_ (by first | exact Nat.le_of_not_lt (by assumption) | (simp; done) | (simp; omega) | omega) _ | refine Below.alloc ?_ (by first | (simp; done) | (simp; omega) | omega) _ | refine Below.drew ?_))⟩
  have n8' : ¬ (8 : Int) < (ps.length : Int) := by omega
  have hR1 : Hid (R = true ↔ cvxP ps) := by show _ ↔ _; rw [← hR]; exact cvx_iff
  have cI := fun w' h => xinr_b A cap ps (by omega) hl hk w' h
  clear hR
  cases hI : allIn ps
  focus
    rw [hI] at cI
    obtain rfl : R = false := by
      rw [Bool.eq_false_iff]; intro e
      have : allIn ps = true := decide_eq_true (hR1.out.1 e).2.2.1
      rw [hI] at this; cases this
    clear hR1 hI
    go_enter Try.func13, Try.ntmps13
    go_wp2_with (go_at_call 27; refine Calls.mono (gw_at (cI _ (Pts.to ha (by repeat (first | with_reducible exact Below.refl _ _ | with_reducible assumption | refine bgw ?_ (by first | (simp; done) | (simp; omega) | omega) _ | refine Below.setCell ?_ (by first | exact Nat.le_of_not_lt (by assumption) | (simp; done) | (simp; omega) | omega) _ | refine Below.alloc ?_ (by first | (simp; done) | (simp; omega) | omega) _ | refine Below.drew ?_))))) ?_; rintro e w1 ⟨rfl, q, rfl⟩)
    go_ret
    exact ⟨rfl, (by repeat (first | with_reducible exact Below.refl _ _ | with_reducible assumption | refine bgw ?_ (by first | (simp; done) | (simp; omega) | omega) _ | refine Below.setCell ?_ (by first | exact Nat.le_of_not_lt (by assumption) | (simp; done) | (simp; omega) | omega) _ | refine Below.alloc ?_ (by first | (simp; done) | (simp; omega) | omega) _ | refine Below.drew ?_))⟩
  rw [hI] at cI
  have hin0 : ∀ p ∈ ps, inrP p := of_decide_eq_true hI
  have hin : Hid (∀ p ∈ ps, inrP p) := hin0
  clear hI hin0
  go_enter Try.func13, Try.ntmps13
  go_wp2_with (go_at_call 27; refine Calls.mono (gw_at (cI _ (Pts.to ha (by repeat (first | with_reducible exact Below.refl _ _ | with_reducible assumption | refine bgw ?_ (by first | (simp; done) | (simp; omega) | omega) _ | refine Below.setCell ?_ (by first | exact Nat.le_of_not_lt (by assumption) | (simp; done) | (simp; omega) | omega) _ | refine Below.alloc ?_ (by first | (simp; done) | (simp; omega) | omega) _ | refine Below.drew ?_))))) ?_; rintro e w1 ⟨rfl, q, rfl⟩)
  clear cI
  go_loopw [19] (fun i wr => ∃ k : Nat, k ≤ ps.length ∧ i = .int .i64 (k : Int) ∧ Hid (∀ j, j < k → outP ps j) ∧ ∃ p, wr = gw w p)
    (fun i _ => (ps.length - intOf i).toNat)
  case atStart => exact ⟨0, by omega, rfl, fun j h => absurd h (by omega), ⟨_, rfl⟩⟩
  case round =>
    obtain ⟨k, hkk, rfl, hall, p, rfl⟩ := hrel
    by_cases hlt : k < ps.length
    · have i0 : (0 : Int) ≤ (k : Int) := by omega
      have i1 : (k : Int) < (ps.length : Int) := by omega
      have cO := fun w' h => xout_b A cap ps k hlt (by omega) (by omega) w' h
      have hyes : outB ps k = true → Hid (∀ j, j < k + 1 → outP ps j) := fun g j h => by
        rcases (by omega : j < k ∨ j = k) with h1 | rfl
        · exact hall.out j h1
        · exact outB_iff.1 g
      have hno : outB ps k = false → R = false := fun g => by
        rw [Bool.eq_false_iff]; intro e
        have h1 : outP ps k := (outP_row hlt).2 fun m hm => (hR1.out.1 e).2.2.2 k hlt m hm
        rw [outB_iff.2 h1] at g; cases g
      clear hall hR1 hin
      cases hB : outB ps k
      · rw [hB] at cO
        obtain rfl := hno hB
        clear hyes hno hB
        go_wp2_with (go_at_call 35; refine Calls.mono (gw_at (cO _ (Pts.to ha (by repeat (first | with_reducible exact Below.refl _ _ | with_reducible assumption | refine bgw ?_ (by first | (simp; done) | (simp; omega) | omega) _ | refine Below.setCell ?_ (by first | exact Nat.le_of_not_lt (by assumption) | (simp; done) | (simp; omega) | omega) _ | refine Below.alloc ?_ (by first | (simp; done) | (simp; omega) | omega) _ | refine Below.drew ?_))))) ?_; rintro e w1 ⟨rfl, q, rfl⟩)
        go_ret
        exact ⟨rfl, (by repeat (first | with_reducible exact Below.refl _ _ | with_reducible assumption | refine bgw ?_ (by first | (simp; done) | (simp; omega) | omega) _ | refine Below.setCell ?_ (by first | exact Nat.le_of_not_lt (by assumption) | (simp; done) | (simp; omega) | omega) _ | refine Below.alloc ?_ (by first | (simp; done) | (simp; omega) | omega) _ | refine Below.drew ?_))⟩
      · rw [hB] at cO
        have hg := hyes hB
        clear hyes hno hB
        go_wp2_with (go_at_call 35; refine Calls.mono (gw_at (cO _ (Pts.to ha (by repeat (first | with_reducible exact Below.refl _ _ | with_reducible assumption | refine bgw ?_ (by first | (simp; done) | (simp; omega) | omega) _ | refine Below.setCell ?_ (by first | exact Nat.le_of_not_lt (by assumption) | (simp; done) | (simp; omega) | omega) _ | refine Below.alloc ?_ (by first | (simp; done) | (simp; omega) | omega) _ | refine Below.drew ?_))))) ?_; rintro e w1 ⟨rfl, q, rfl⟩)
        exact ⟨⟨k + 1, by omega, by go_num, hg, gw_gw _ _ _⟩, by (try go_num); simp [intOf]; (try omega)⟩
    · obtain rfl : k = ps.length := by omega
      have i1 : ¬ (ps.length : Int) < (ps.length : Int) := by omega
      obtain rfl : R = true := hR1.out.2 ⟨by omega, by omega, hin.out, fun i hi m hm => (outP_row hi).1 (hall.out i hi) m hm⟩
      clear hall hR1 hin
      go_wp2_with fail
      go_ret
      exact ⟨rfl, (by repeat (first | with_reducible exact Below.refl _ _ | with_reducible assumption | refine bgw ?_ (by first | (simp; done) | (simp; omega) | omega) _ | refine Below.setCell ?_ (by first | exact Nat.le_of_not_lt (by assumption) | (simp; done) | (simp; omega) | omega) _ | refine Below.alloc ?_ (by first | (simp; done) | (simp; omega) | omega) _ | refine Below.drew ?_))⟩

theorem xconvL_b (A : Option Addr) (cap : Nat) (ps : List (Int × Int)) (w : World) (ha : Pts w A ps) (hk : ps.length ≤ cap := by first | omega | decide) : Calls Try.prog 13 #[.slice A ps.length cap] w fun e w' => e = .returned (.bool (cvx ps)) ∧ Below w.heap.size w w' := by
  by_cases n8 : ps.length ≤ 8
  · exact xconv_b A cap ps (by omega) w ha hk
  have n3' : ¬ (ps.length : Int) < 3 := by omega
  have n8' : (8 : Int) < (ps.length : Int) := by omega
  rw [cvx_no fun h => by have := h.2.1; omega]
  go_enter Try.func13, Try.ntmps13
  go_wp2_with fail
  go_ret
  exact ⟨rfl, (by repeat (first | with_reducible exact Below.refl _ _ | with_reducible assumption | refine bgw ?_ (by first | (simp; done) | (simp; omega) | omega) _ | refine Below.setCell ?_ (by first | exact Nat.le_of_not_lt (by assumption) | (simp; done) | (simp; omega) | omega) _ | refine Below.alloc ?_ (by first | (simp; done) | (simp; omega) | omega) _ | refine Below.drew ?_))⟩

end Go.Proofs.Ytncijpaooiopfaa
