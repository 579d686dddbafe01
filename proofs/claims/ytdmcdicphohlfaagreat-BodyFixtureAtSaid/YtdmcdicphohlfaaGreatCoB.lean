/- Package polygon: mathematics of the landed code: the box of the points, the two chains over the sorted points, duplicates that lie side by side.
Package polygon, the landed code: edge, inRange, isOutermost, IsConvex.
Package polygon, the landed code: fanSums, Area, Centroid.
Package polygon, the landed code: Contains, ShortestEdge, exactDot, Support. -/
import Derived.Test.YtdmcdicphohlfaaGreatMa5

set_option linter.unusedVariables false
namespace Go.Proofs.YtdmcdicphohlfaaGreat
open Go.RowKit Fx

def inB (b : Bx) : Prop := -1048576 ≤ b.x0 ∧ b.x1 ≤ 1048576 ∧ -1048576 ≤ b.y0 ∧ b.y1 ≤ 1048576
theorem sat_big (x : Int) : (-1048576 ≤ sat x ↔ -1048576 ≤ x) ∧ (sat x ≤ 1048576 ↔ x ≤ 1048576) := by
  unfold sat; split <;> (try split) <;> omega
theorem fold_inB : ∀ (ps : List Pt) (b : Bx), inB (ps.foldl Bx.step b) ↔ inB b ∧ ∀ p ∈ ps, inrP p
  | [], b => by simp
  | p :: ps, b => by
    rw [List.foldl_cons, fold_inB ps]
    have hx := sat_big p.1
    have hy := sat_big p.2
    have : inB (b.step p) ↔ inB b ∧ inrP p := by
      unfold inB Bx.step inrP; dsimp only; omega
    rw [this]
    simp only [List.mem_cons, forall_eq_or_imp, and_assoc]
theorem pts_inB {ps : List Pt} (h : 0 < ps.length) : inB (Bx.pts ps) ↔ ∀ p ∈ ps, inrP p := by
  cases ps with
  | nil => simp at h
  | cons p ps =>
    show inB (ps.foldl Bx.step (Bx.one p)) ↔ _
    rw [fold_inB]
    have hx := sat_big p.1
    have hy := sat_big p.2
    have : inB (Bx.one p) ↔ inrP p := by
      unfold inB Bx.one inrP; dsimp only; omega
    rw [this]
    simp only [List.mem_cons, forall_eq_or_imp]
def allIn (ps : List Pt) : Bool := decide (∀ p ∈ ps, inrP p)
theorem box_in {ps : List Pt} (h : 0 < ps.length) : con8 (-1048576) (-1048576) 1048576 1048576 (Bx.pts ps).x0 (Bx.pts ps).y0 (Bx.pts ps).x1 (Bx.pts ps).y1 = allIn ps := by
  have h1 : (Bx.mk (-1048576) (-1048576) 1048576 1048576).val = true := by decide +kernel
  have h2 : (Bx.pts ps).val = true := Bx.val_iff.2 (Bx.pts_ok h)
  have h3 := pts_inB h
  unfold con8 Bx.con allIn
  rw [h1]
  rw [Bool.eq_iff_iff]
  simp only [Bool.true_and, Bool.and_eq_true, decide_eq_true_eq]
  rw [← h3]
  unfold inB
  constructor
  · rintro ⟨⟨⟨⟨-, a⟩, b⟩, c⟩, d⟩; exact ⟨a, b, c, d⟩
  · rintro ⟨a, b, c, d⟩; exact ⟨⟨⟨⟨h2, a⟩, b⟩, c⟩, d⟩

def dd : List Pt → List Pt
  | [] => []
  | [a] => [a]
  | a :: b :: r => if a = b then dd (b :: r) else a :: dd (b :: r)
end Go.Proofs.YtdmcdicphohlfaaGreat

set_option linter.unusedVariables false
namespace Go.Proofs.YtdmcdicphohlfaaGreat
open Go.RowKit Fx

set_option maxRecDepth 100000 in
set_option maxHeartbeats 8000000 in
theorem xedge_b (A : Option Addr) (cap : Nat) (ps : List (Int × Int)) (i : Nat) (hi : i < ps.length) (hl : ps.length ≤ 4611686018427387904) (w : World) (ha : Pts w A ps) : Calls Tryz.prog 236 #[.slice A ps.length cap, .int .i64 (i : Int)] w fun e w' => e = .returned (.tuple #[.agg #[.int .i64 (hp' ps i).1, .int .i64 (hp' ps i).2], .agg #[.int .i64 (hp' ps (i + 1)).1, .int .i64 (hp' ps (i + 1)).2]]) ∧ Below w.heap.size w w' := by
  have hmod := Nat.mod_lt (i + 1) (show 0 < ps.length by omega)
  have hm : ((i : Int) + 1).tmod (ps.length : Int) = (((i + 1) % ps.length : Nat) : Int) := next_mod
  have hnz : ((ps.length : Int) == 0) = false := by rw [beq_eq_false_iff_ne]; omega
  rw [← hp_mod ps (i + 1)]
  generalize (i + 1) % ps.length = nx at *
  rw [hp_get hi, hp_get hmod]
  have i0 : (0 : Int) ≤ (i : Int) := by omega
  have i1 : (i : Int) < (ps.length : Int) := by omega
  have x0 : (0 : Int) ≤ (nx : Int) := by omega
  have x1 : (nx : Int) < (ps.length : Int) := by omega
  have i4 : IntKind.i64.wrap ((i : Int) + 1) = (i : Int) + 1 := by rw [IntKind.wrap_i64]; omega
  have hw5 : wrap64 ((i : Int) + 1) = (i : Int) + 1 := by unfold wrap64; omega
  obtain ⟨b, off, rfl, hc0⟩ := pts_open0 ha (by omega)
  have hcellB : ∀ w', Below w.heap.size w w' → Below w.heap.size w w' ∧ w'.cell? ⟨b, off + i * 2, none⟩ = some (.int .i64 ps[i].1) ∧ w'.cell? ⟨b, off + i * 2 + 1, none⟩ = some (.int .i64 ps[i].2) ∧ w'.cell? ⟨b, off + nx * 2, none⟩ = some (.int .i64 ps[nx].1) ∧ w'.cell? ⟨b, off + nx * 2 + 1, none⟩ = some (.int .i64 ps[nx].2) := fun w' hb => by
    obtain ⟨b', off', e, hc⟩ := pts_open0 (Pts.to ha hb) (by omega)
    cases e
    exact ⟨hb, (hc i hi).1, (hc i hi).2, (hc nx hmod).1, (hc nx hmod).2⟩
  clear hc0 ha
  generalize ps[i].1 = xi at *
  generalize ps[i].2 = yi at *
  generalize ps[nx].1 = xn at *
  generalize ps[nx].2 = yn at *
  generalize ps.length = n at *
  have z1 : ¬ (n : Int) = 0 := by omega
  have z2 : ¬ n = 0 := by omega
  go_enter Tryz.func236, Tryz.ntmps236
  go_upto_region 1 with fail
  refine wp_named ?_
  intro W hW
  have kR : blk W w.heap.size #[.int .i64 0, .int .i64 0] 24 := by rw [hW]; exact bBkn
  have kS : blk W (w.heap.size + 1) #[.int .i64 0, .int .i64 0] 24 := by rw [hW]; exact bBkn
  have hbW : Below w.heap.size w W := by rw [hW]; exact bBel
  have hzW : w.heap.size + 1 < W.heap.size := by rw [hW]; simp
  clear hW
  have hszW := hbW.size
  obtain ⟨-, c0, c1, d0, d1⟩ := hcellB _ hbW
  have okR := blk_older kR
  have ckR_0 : _ = some _ := blk_cell kR 0
  have ckR_1 : _ = some _ := blk_cell kR 1
  have fkR_0 := blk_free kR 0
  have fkR_1 := blk_free kR 1
  have okS := blk_older kS
  have ckS_0 : _ = some _ := blk_cell kS 0
  have ckS_1 : _ = some _ := blk_cell kS 1
  have fkS_0 := blk_free kS 0
  have fkS_1 := blk_free kS 1
  go_region_held3 (fun w' => Below w.heap.size w w' ∧ w'.cell? ⟨b, off + i * 2, none⟩ = some (.int .i64 xi) ∧ w'.cell? ⟨b, off + i * 2 + 1, none⟩ = some (.int .i64 yi) ∧ w'.cell? ⟨b, off + nx * 2, none⟩ = some (.int .i64 xn) ∧ w'.cell? ⟨b, off + nx * 2 + 1, none⟩ = some (.int .i64 yn)) (first | (refine hcellB _ ?_; exact bBel)) (fail)
  all_goals
    go_wp2_with fail
  all_goals
    refine post_nmd ?_
    intro Z hZ
    have kZ : blk Z w.heap.size #[.int .i64 xi, .int .i64 yi] 24 := by rw [hZ]; exact (by apply blk_of; (repeat (first | with_reducible exact kR | with_reducible apply blk_drew | with_reducible apply blk_gw | with_reducible apply blk_alloc | with_reducible apply blk_set | ((with_reducible apply blk_other); focus omega))); (first | rfl | simp))
    have kY : blk Z (w.heap.size + 1) #[.int .i64 xn, .int .i64 yn] 24 := by rw [hZ]; exact (by apply blk_of; (repeat (first | with_reducible exact kS | with_reducible apply blk_drew | with_reducible apply blk_gw | with_reducible apply blk_alloc | with_reducible apply blk_set | ((with_reducible apply blk_other); focus omega))); (first | rfl | simp))
    have hbZ : Below w.heap.size w Z := by rw [hZ]; exact bBel
    clear hZ
    have okZ := blk_older kZ
    have ckZ_0 : _ = some _ := blk_cell kZ 0
    have ckZ_1 : _ = some _ := blk_cell kZ 1
    have fkZ_0 := blk_free kZ 0
    have fkZ_1 := blk_free kZ 1
    have okY := blk_older kY
    have ckY_0 : _ = some _ := blk_cell kY 0
    have ckY_1 : _ = some _ := blk_cell kY 1
    have fkY_0 := blk_free kY 0
    have fkY_1 := blk_free kY 1
    exact bodyPost_ret (v := .tuple #[.agg #[.int .i64 xi, .int .i64 yi], .agg #[.int .i64 xn, .int .i64 yn]]) (by simp [results, Tryz.results236, go_sem, ckZ_0, ckZ_1, ckY_0, ckY_1]) rfl ⟨rfl, hbZ⟩

set_option maxHeartbeats 4000000 in
theorem xinr_b (A : Option Addr) (cap : Nat) (ps : List (Int × Int)) (h0 : 0 < ps.length) (hl : ps.length ≤ 4611686018427387904) (hk : ps.length ≤ cap) (w : World) (ha : Pts w A ps) : Calls Tryz.prog 234 #[.slice A ps.length cap] w fun e w' => e = .returned (.bool (allIn ps)) ∧ Below w.heap.size w w' := by
  have cF := fun w' h => xfp_b A cap ps w' h hl hk
  have cC := fun w' => xcon_b (-1048576) (-1048576) 1048576 1048576 (Bx.pts ps).x0 (Bx.pts ps).y0 (Bx.pts ps).x1 (Bx.pts ps).y1 w'
  rw [box_in h0] at cC
  rw [decide_eq_true h0] at cF
  generalize allIn ps = R at *
  generalize (Bx.pts ps).x0 = x0 at *
  generalize (Bx.pts ps).y0 = y0 at *
  generalize (Bx.pts ps).x1 = x1 at *
  generalize (Bx.pts ps).y1 = y1 at *
  go_enter Tryz.func234, Tryz.ntmps234
  go_wp2_with (first | (go_at_call 134; refine Calls.mono (gw_at (cF _ (Pts.to ha bBel))) ?_; rintro e w1 ⟨rfl, q, rfl⟩) | (go_at_call 100; refine Calls.mono (gw_at (cC _)) ?_; rintro e w1 ⟨rfl, q2, rfl⟩))
  go_ret
  exact ⟨rfl, bBel⟩

def outP (ps : List Pt) (i : Nat) : Prop := ∀ s, 2 ≤ s → s < ps.length → or3 (hp' ps i) (hp' ps (i + 1)) (hp' ps (i + s)) = 1
noncomputable def outB (ps : List Pt) (i : Nat) : Bool := @decide (outP ps i) (Classical.propDecidable _)
theorem outB_iff {ps : List Pt} {i : Nat} : outB ps i = true ↔ outP ps i := by unfold outB; exact @decide_eq_true_iff _ (Classical.propDecidable _)
theorem outP_row {ps : List Pt} {i : Nat} (hi : i < ps.length) : outP ps i ↔ ∀ k, k < ps.length → rowok ps i k := by
  constructor
  · intro h k hk
    unfold rowok
    by_cases h0 : k = i
    · exact .inl h0
    by_cases h1 : k = (i + 1) % ps.length
    · exact .inr (.inl h1)
    · refine .inr (.inr ?_)
      by_cases hik : i < k
      · have h2 : k ≠ i + 1 := fun e => h1 (by rw [e, Nat.mod_eq_of_lt (by omega)])
        have := h (k - i) (by omega) (by omega)
        rwa [show i + (k - i) = k from by omega] at this
      · have h2 : ¬ (k = 0 ∧ i + 1 = ps.length) := fun e => h1 (by rw [e.2, Nat.mod_self, e.1])
        have := h (k + ps.length - i) (by omega) (by omega)
        rwa [show i + (k + ps.length - i) = k + ps.length from by omega, hp_add] at this
  · intro h s h2 hs
    have hk := Nat.mod_lt (i + s) (show 0 < ps.length by omega)
    have := h _ hk
    unfold rowok at this
    rw [hp_mod] at this
    have hv : (i + s) % ps.length = i + s ∨ (i + s) % ps.length + ps.length = i + s := by
      by_cases c : i + s < ps.length
      · exact .inl (Nat.mod_eq_of_lt c)
      · exact .inr (by rw [Nat.mod_eq_sub_mod (by omega), Nat.mod_eq_of_lt (by omega)]; omega)
    have hv1 : (i + 1) % ps.length = i + 1 ∨ ((i + 1) % ps.length = 0 ∧ i + 1 = ps.length) := by
      by_cases c : i + 1 < ps.length
      · exact .inl (Nat.mod_eq_of_lt c)
      · have : i + 1 = ps.length := by omega
        exact .inr ⟨by rw [this, Nat.mod_self], this⟩
    generalize (i + s) % ps.length = m at *
    generalize (i + 1) % ps.length = m1 at *
    rcases this with h | h | h
    · exact absurd h (by omega)
    · exact absurd h (by omega)
    · exact h

set_option maxRecDepth 100000 in
set_option maxHeartbeats 8000000 in
theorem xout_b (A : Option Addr) (cap : Nat) (ps : List (Int × Int)) (i : Nat) (hi : i < ps.length) (h3 : 3 ≤ ps.length) (h8 : ps.length ≤ 8) (w : World) (ha : Pts w A ps) : Calls Tryz.prog 235 #[.slice A ps.length cap, .int .i64 (i : Int)] w fun e w' => e = .returned (.bool (outB ps i)) ∧ Below w.heap.size w w' := by
  obtain ⟨R, hR⟩ : ∃ R, outB ps i = R := ⟨_, rfl⟩
  have hR1 : Hid (R = true ↔ outP ps i) := by show _ ↔ _; rw [← hR]; exact outB_iff
  rw [hR]
  clear hR
  have cE := fun w' h => xedge_b A cap ps i hi (by omega) w' h
  have hP : Hid (outP ps i ↔ ∀ s, 2 ≤ s → s < ps.length → or3 (hp' ps i) (hp' ps (i + 1)) (hp' ps (i + s)) = 1) := Iff.rfl
  obtain ⟨F, hF⟩ : ∃ F, hp' ps i = F := ⟨_, rfl⟩
  obtain ⟨T, hT⟩ : ∃ T, hp' ps (i + 1) = T := ⟨_, rfl⟩
  rw [hF, hT] at hP cE
  clear hF hT
  obtain ⟨fx, fy⟩ := F
  obtain ⟨tx, ty⟩ := T
  dsimp only at cE
  have n0 : (0 : Int) < (ps.length : Int) := by omega
  have n8 : (ps.length : Int) ≤ 8 := by omega
  have i0 : (0 : Int) ≤ (i : Int) := by omega
  have i8 : (i : Int) < 8 := by omega
  obtain ⟨b, off, rfl, -⟩ := pts_open0 ha (by omega)
  go_enter Tryz.func235, Tryz.ntmps235
  go_upto_region 2 with (go_at_call 236; refine Calls.mono (gw_at (cE _ (Pts.to ha bBel))) ?_; rintro e w1 ⟨rfl, q, rfl⟩)
  refine wp_named ?_
  intro W hW
  have kF : blk W (w.heap.size + q.os.size) #[.int .i64 fx, .int .i64 fy] 24 := by rw [hW]; exact bBkn
  have kT : blk W (w.heap.size + q.os.size + 1) #[.int .i64 tx, .int .i64 ty] 24 := by rw [hW]; exact bBkn
  have hbW : Below w.heap.size w W := by rw [hW]; exact bBel
  clear hW cE
  generalize w.heap.size + q.os.size + 1 = BT at *
  generalize w.heap.size + q.os.size = BF at *
  have hcell2 : ∀ w' (i : Nat) (h : i < ps.length), Below W.heap.size W w' → w'.cell? ⟨b, off + i * 2, none⟩ = some (.int .i64 ps[i].1) ∧ w'.cell? ⟨b, off + i * 2 + 1, none⟩ = some (.int .i64 ps[i].2) := fun w' i h hb => by
    obtain ⟨b', off', e, hc⟩ := pts_open0 (Pts.to ha (Below.trans hbW (hb.mono hbW.size))) (by omega)
    cases e
    exact hc i h
  go_wp2_with fail
  go_loopw [7] (fun i_ wr => ∃ s : Nat, 2 ≤ s ∧ s ≤ ps.length ∧ i_ = .int .i64 (s : Int) ∧ Hid (∀ t, 2 ≤ t → t < s → or3 (fx, fy) (tx, ty) (hp' ps (i + t)) = 1) ∧ ∃ p, wr = gw W p)
    (fun i_ _ => (ps.length - intOf i_).toNat)
  case atStart => exact ⟨2, by omega, by omega, rfl, fun t h h' => absurd h (by omega), ⟨⟨W.drawn, #[]⟩, (gw_zero W).symm⟩⟩
  case round =>
    obtain ⟨s, hs2, hs, rfl, hall, p, rfl⟩ := hrel
    have hszW := hbW.size
    have kF2 := blk_gw (p := p) kF
    have kT2 := blk_gw (p := p) kT
    have okF2 := blk_older kF2
    have ckF2_0 : _ = some _ := blk_cell kF2 0
    have ckF2_1 : _ = some _ := blk_cell kF2 1
    have fkF2_0 := blk_free kF2 0
    have fkF2_1 := blk_free kF2 1
    have okT2 := blk_older kT2
    have ckT2_0 : _ = some _ := blk_cell kT2 0
    have ckT2_1 : _ = some _ := blk_cell kT2 1
    have fkT2_0 := blk_free kT2 0
    have fkT2_1 := blk_free kT2 1
    by_cases hlt : s < ps.length
    · have s0 : (0 : Int) ≤ (s : Int) := by omega
      have s1 : (s : Int) < (ps.length : Int) := by omega
      have hmod := Nat.mod_lt (i + s) (show 0 < ps.length by omega)
      have hm : ((i : Int) + (s : Int)).tmod (ps.length : Int) = (((i + s) % ps.length : Nat) : Int) := by
        rw [show (i : Int) + (s : Int) = ((i + s : Nat) : Int) from by omega]; first | exact (Int.ofNat_tmod _ _).symm | exact (Int.natCast_tmod _ _).symm | (rw [Int.tmod_eq_emod_of_nonneg (by omega)]; exact (Int.natCast_emod _ _).symm)
      have hnz : ((ps.length : Int) == 0) = false := by rw [beq_eq_false_iff_ne]; omega
      have hyes : or3 (fx, fy) (tx, ty) (hp' ps (i + s)) = 1 → Hid (∀ t, 2 ≤ t → t < s + 1 → or3 (fx, fy) (tx, ty) (hp' ps (i + t)) = 1) := fun g t h h' => by
        rcases (by omega : t < s ∨ t = s) with h1 | rfl
        · exact hall.out t h h1
        · exact g
      have hno : or3 (fx, fy) (tx, ty) (hp' ps (i + s)) ≠ 1 → R = false := fun g => by
        rw [Bool.eq_false_iff]; intro e; exact g ((hP.out.1 (hR1.out.1 e)) s hs2 hlt)
      have cO : ∀ w', Calls Tryz.prog 167 #[.agg #[.int .i64 fx, .int .i64 fy], .agg #[.int .i64 tx, .int .i64 ty], .agg #[.int .i64 (hp' ps (i + s)).1, .int .i64 (hp' ps (i + s)).2]] w' fun e w'' => e = .returned (.int .i64 (or3 (fx, fy) (tx, ty) (hp' ps (i + s)))) ∧ Below w'.heap.size w' w'' := fun w' => orient_b _ _ _ _ _ _ w'
      rw [← hp_mod ps (i + s)] at hyes hno cO
      generalize (i + s) % ps.length = nx at *
      rw [hp_get hmod] at hyes hno cO
      have x0 : (0 : Int) ≤ (nx : Int) := by omega
      have x1 : (nx : Int) < (ps.length : Int) := by omega
      obtain ⟨d0, d1⟩ := hcell2 _ nx hmod (below_gw W p)
      have ob := older_of_cell d0
      clear hcell2 hall hR1 hP
      generalize or3 (fx, fy) (tx, ty) ps[nx] = O at *
      generalize ps[nx].1 = xn at *
      generalize ps[nx].2 = yn at *
      by_cases c : O = 1
      · have hg := hyes c
        have b1 : (O != 1) = false := by rw [bne_eq_false_iff_eq]; exact c
        clear hyes hno c
        go_wp2_with fail
        refine wp_region_gw (by kernel_rfl) (by kernel_rfl) ?_
        repeat (go_big_quiet_step ((go_at_call 167; exact gw_call (cO _))))
        refine wpQuiet_nil ?_
        intro w1 hw1
        obtain ⟨q, rfl⟩ := hw1
        go_wp2_with fail
        exact ⟨⟨s + 1, by omega, by omega, by go_num, hg, gw_gw _ _ _⟩, by (try go_num); simp [intOf]; (try omega)⟩
      · obtain rfl := hno c
        have b1 : (O != 1) = true := by rw [bne_iff_ne]; exact c
        clear hyes hno c
        go_wp2_with fail
        refine wp_region_gw (by kernel_rfl) (by kernel_rfl) ?_
        repeat (go_big_quiet_step ((go_at_call 167; exact gw_call (cO _))))
        refine wpQuiet_nil ?_
        intro w1 hw1
        obtain ⟨q, rfl⟩ := hw1
        go_wp2_with fail
        go_ret
        exact ⟨rfl, bBel⟩
    · obtain rfl : s = ps.length := by omega
      have s1 : ¬ (ps.length : Int) < (ps.length : Int) := by omega
      obtain rfl : R = true := hR1.out.2 (hP.out.2 fun t h h' => hall.out t h h')
      clear hcell2 hall hR1 hP
      go_wp2_with fail
      go_ret
      exact ⟨rfl, bBel⟩

set_option maxHeartbeats 8000000 in
theorem xconv_b (A : Option Addr) (cap : Nat) (ps : List (Int × Int)) (hl : ps.length ≤ 4611686018427387904) (w : World) (ha : Pts w A ps) (hk : ps.length ≤ cap := by first | omega | decide) : Calls Tryz.prog 182 #[.slice A ps.length cap] w fun e w' => e = .returned (.bool (cvx ps)) ∧ Below w.heap.size w w' := by
  obtain ⟨R, hR⟩ : ∃ R, cvx ps = R := ⟨_, rfl⟩
  rw [hR]
  by_cases n3 : ps.length < 3
  focus
    obtain rfl : R = false := hR.symm.trans (cvx_no fun h => by have := h.1; omega)
    have n3' : (ps.length : Int) < 3 := by omega
    clear hR n3
    generalize ps.length = n at *
    go_enter Tryz.func182, Tryz.ntmps182
    go_wp2_with fail
    go_ret
    exact ⟨rfl, bBel⟩
  have n3' : ¬ (ps.length : Int) < 3 := by omega
  by_cases n8 : 8 < ps.length
  focus
    obtain rfl : R = false := hR.symm.trans (cvx_no fun h => by have := h.2.1; omega)
    have n8' : (8 : Int) < (ps.length : Int) := by omega
    clear hR n3 n8
    go_enter Tryz.func182, Tryz.ntmps182
    go_wp2_with fail
    go_ret
    exact ⟨rfl, bBel⟩
  have n8' : ¬ (8 : Int) < (ps.length : Int) := by omega
  have hR1 : Hid (R = true ↔ cvxP ps) := by show _ ↔ _; rw [← hR]; exact cvx_iff
  have cI := fun w' h => xinr_b A cap ps (by omega) hl hk w' h
  clear hR
  cases hI : allIn ps
  focus
    rw [hI] at cI
    obtain rfl : R = false := by
      rw [Bool.eq_false_iff]; intro e
      have : allIn ps = true := decide_eq_true (hR1.out.1 e).2.2.1
      rw [hI] at this; cases this
    clear hR1 hI
    go_enter Tryz.func182, Tryz.ntmps182
    go_wp2_with (go_at_call 234; refine Calls.mono (gw_at (cI _ (Pts.to ha bBel))) ?_; rintro e w1 ⟨rfl, q, rfl⟩)
    go_ret
    exact ⟨rfl, bBel⟩
  rw [hI] at cI
  have hin0 : ∀ p ∈ ps, inrP p := of_decide_eq_true hI
  have hin : Hid (∀ p ∈ ps, inrP p) := hin0
  clear hI hin0
  go_enter Tryz.func182, Tryz.ntmps182
  go_wp2_with (go_at_call 234; refine Calls.mono (gw_at (cI _ (Pts.to ha bBel))) ?_; rintro e w1 ⟨rfl, q, rfl⟩)
  clear cI
  go_loopw [19] (fun i wr => ∃ k : Nat, k ≤ ps.length ∧ i = .int .i64 (k : Int) ∧ Hid (∀ j, j < k → outP ps j) ∧ ∃ p, wr = gw w p)
    (fun i _ => (ps.length - intOf i).toNat)
  case atStart => exact ⟨0, by omega, rfl, fun j h => absurd h (by omega), ⟨_, rfl⟩⟩
  case round =>
    obtain ⟨k, hkk, rfl, hall, p, rfl⟩ := hrel
    by_cases hlt : k < ps.length
    · have i0 : (0 : Int) ≤ (k : Int) := by omega
      have i1 : (k : Int) < (ps.length : Int) := by omega
      have cO := fun w' h => xout_b A cap ps k hlt (by omega) (by omega) w' h
      have hyes : outB ps k = true → Hid (∀ j, j < k + 1 → outP ps j) := fun g j h => by
        rcases (by omega : j < k ∨ j = k) with h1 | rfl
        · exact hall.out j h1
        · exact outB_iff.1 g
      have hno : outB ps k = false → R = false := fun g => by
        rw [Bool.eq_false_iff]; intro e
        have h1 : outP ps k := (outP_row hlt).2 fun m hm => (hR1.out.1 e).2.2.2 k hlt m hm
        rw [outB_iff.2 h1] at g; cases g
      clear hall hR1 hin
      cases hB : outB ps k
      · rw [hB] at cO
        obtain rfl := hno hB
        clear hyes hno hB
        go_wp2_with (go_at_call 235; refine Calls.mono (gw_at (cO _ (Pts.to ha bBel))) ?_; rintro e w1 ⟨rfl, q, rfl⟩)
        go_ret
        exact ⟨rfl, bBel⟩
      · rw [hB] at cO
        have hg := hyes hB
        clear hyes hno hB
        go_wp2_with (go_at_call 235; refine Calls.mono (gw_at (cO _ (Pts.to ha bBel))) ?_; rintro e w1 ⟨rfl, q, rfl⟩)
        exact ⟨⟨k + 1, by omega, by go_num, hg, gw_gw _ _ _⟩, by (try go_num); simp [intOf]; (try omega)⟩
    · obtain rfl : k = ps.length := by omega
      have i1 : ¬ (ps.length : Int) < (ps.length : Int) := by omega
      obtain rfl : R = true := hR1.out.2 ⟨by omega, by omega, hin.out, fun i hi m hm => (outP_row hi).1 (hall.out i hi) m hm⟩
      clear hall hR1 hin
      go_wp2_with fail
      go_ret
      exact ⟨rfl, bBel⟩

end Go.Proofs.YtdmcdicphohlfaaGreat

set_option linter.unusedVariables false
namespace Go.Proofs.YtdmcdicphohlfaaGreat
open Go.RowKit Fx

theorem sub_inrP {a b : Int} (ha : -1048576 ≤ a ∧ a ≤ 1048576) (hb : -1048576 ≤ b ∧ b ≤ 1048576) : sub a b = a - b := by
  unfold sub; rw [inr_sat ha.1 ha.2, inr_sat hb.1 hb.2]; exact sat_id (by omega) (by omega)
theorem cross_crs {ps : List Pt} (h0 : 0 < ps.length) (hin : ∀ p ∈ ps, inrP p) (i : Nat) : cross ((hp' ps i).1 - (hp' ps 0).1) ((hp' ps i).2 - (hp' ps 0).2) ((hp' ps (i + 1)).1 - (hp' ps 0).1) ((hp' ps (i + 1)).2 - (hp' ps 0).2) = crs ps i := by
  have hc := crs_in h0 hin i
  have a := hin _ (hp_mem (h := ps) 0 h0); have b := hin _ (hp_mem (h := ps) i h0); have c := hin _ (hp_mem (h := ps) (i + 1) h0)
  unfold inrP at a b c
  unfold cross
  rw [sat_id (x := (hp' ps i).1 - (hp' ps 0).1) (by omega) (by omega), sat_id (x := (hp' ps i).2 - (hp' ps 0).2) (by omega) (by omega), sat_id (x := (hp' ps (i + 1)).1 - (hp' ps 0).1) (by omega) (by omega), sat_id (x := (hp' ps (i + 1)).2 - (hp' ps 0).2) (by omega) (by omega)]
  show sat (crs ps i) = _
  exact sat_id (by omega) (by omega)

set_option maxRecDepth 100000 in
set_option maxHeartbeats 16000000 in
theorem xfan_b (A : Option Addr) (cap : Nat) (ps : List (Int × Int)) (n3 : 3 ≤ ps.length) (n8 : ps.length ≤ 8) (hin : ∀ p ∈ ps, inrP p) (w : World) (ha : Pts w A ps) : Calls Tryz.prog 237 #[.slice A ps.length cap] w fun e w' => e = .returned (.tuple #[.int .i64 (crsS ps (ps.length - 2)), .agg #[.int .i64 (cenX ps (ps.length - 2)), .int .i64 (cenY ps (ps.length - 2))]]) ∧ Below w.heap.size w w' := by
  have hin2 : Hid (∀ p ∈ ps, inrP p) := hin
  have n3' : (3 : Int) ≤ (ps.length : Int) := by omega
  have n8' : (ps.length : Int) ≤ 8 := by omega
  have n0 : (0 : Int) < (ps.length : Int) := by omega
  obtain ⟨b, off, rfl, hc0⟩ := pts_open0 ha (by omega)
  have ia := hin _ (List.getElem_mem (show 0 < ps.length by omega))
  unfold inrP at ia
  obtain ⟨ia1, ia2, ia3, ia4⟩ := ia
  obtain ⟨x0, hx0⟩ : ∃ x, Hid (ps[0].1 = x) := ⟨ps[0].1, rfl⟩
  obtain ⟨y0, hy0⟩ : ∃ x, Hid (ps[0].2 = x) := ⟨ps[0].2, rfl⟩
  rw [hx0.out] at ia1 ia2
  rw [hy0.out] at ia3 ia4
  clear hin hc0
  obtain ⟨S, hS0⟩ : ∃ x, Hid (crsS ps (ps.length - 2) = x) := ⟨_, rfl⟩
  obtain ⟨SX, hX0⟩ : ∃ x, Hid (cenX ps (ps.length - 2) = x) := ⟨_, rfl⟩
  obtain ⟨SY, hY0⟩ : ∃ x, Hid (cenY ps (ps.length - 2) = x) := ⟨_, rfl⟩
  rw [hS0.out, hX0.out, hY0.out]
  go_enter Tryz.func237, Tryz.ntmps237
  go_upto_region 3 with fail
  refine wp_named ?_
  intro W hW
  have kR : blk W w.heap.size #[.int .i64 0, .int .i64 0] 24 := by rw [hW]; exact bBkn
  have kM : blk W (w.heap.size + 1) #[.int .i64 0, .int .i64 0] 24 := by rw [hW]; exact bBkn
  have hbW : Below w.heap.size w W := by rw [hW]; exact bBel
  clear hW
  have hlM : w.heap.size < w.heap.size + 1 := by omega
  generalize w.heap.size + 1 = M at *
  go_wp2_with fail
  go_loopw [4, 6] (fun s i wr => ∃ j : Nat, 1 ≤ j ∧ j + 1 ≤ ps.length ∧ s = .int .i64 (crsS ps (j - 1)) ∧ i = .int .i64 ((j : Int) + 1) ∧ blk wr M #[.int .i64 (cenX ps (j - 1)), .int .i64 (cenY ps (j - 1))] 24 ∧ blk wr w.heap.size #[.int .i64 0, .int .i64 0] 24 ∧ Below w.heap.size w wr)
    (fun _ i _ => (ps.length - intOf i).toNat)
  case atStart => exact ⟨1, by omega, by omega, rfl, rfl, kM, kR, hbW⟩
  case round =>
    obtain ⟨j, hj1, hj, rfl, rfl, kM, kR, hbR⟩ := hrel
    have hszR := hbR.size
    have hs := crsS_in (ps := ps) (by omega) hin2.out (j - 1)
    obtain ⟨hcx, hcy⟩ := cen_in (ps := ps) (by omega) hin2.out (j - 1)
    have j8 : ((j - 1 : Nat) : Int) ≤ 8 := by omega
    have okM := blk_older kM
    have ckM_0 : _ = some _ := blk_cell kM 0
    have ckM_1 : _ = some _ := blk_cell kM 1
    have fkM_0 := blk_free kM 0
    have fkM_1 := blk_free kM 1
    have okR := blk_older kR
    have ckR_0 : _ = some _ := blk_cell kR 0
    have ckR_1 : _ = some _ := blk_cell kR 1
    have fkR_0 := blk_free kR 0
    have fkR_1 := blk_free kR 1
    by_cases hlt : j + 1 < ps.length
    · have i0 : (0 : Int) ≤ (j : Int) := by omega
      have i1 : (j : Int) + 1 < (ps.length : Int) := by omega
      have i2 : (j : Int) < (ps.length : Int) := by omega
      have i3 : (0 : Int) ≤ (j : Int) + 1 := by omega
      have i4 : IntKind.i64.wrap ((j : Int) + 1) = (j : Int) + 1 := by rw [IntKind.wrap_i64]; omega
      obtain ⟨b', off', hE, hcell⟩ := pts_open0 (Pts.to ha hbR) (by omega)
      cases hE
      obtain ⟨a0, a1⟩ := hcell 0 (by omega)
      obtain ⟨d0, d1⟩ := hcell j (by omega)
      obtain ⟨f0, f1⟩ := hcell (j + 1) hlt
      have ob := older_of_cell d0
      rw [Nat.zero_mul, Nat.add_zero] at a0 a1
      rw [hx0.out] at a0
      rw [hy0.out] at a1
      have hk2 := crs_in (ps := ps) (by omega) hin2.out j
      have ib := hin2.out _ (List.getElem_mem (show j < ps.length by omega))
      have ic := hin2.out _ (List.getElem_mem hlt)
      unfold inrP at ib ic
      obtain ⟨ib1, ib2, ib3, ib4⟩ := ib
      obtain ⟨ic1, ic2, ic3, ic4⟩ := ic
      have cC : ∀ w', Calls Tryz.prog 85 #[.agg #[.int .i64 (ps[j].1 - x0), .int .i64 (ps[j].2 - y0)], .agg #[.int .i64 (ps[j + 1].1 - x0), .int .i64 (ps[j + 1].2 - y0)]] w' fun e w'' => e = .returned (.int .i64 (crs ps j)) ∧ Below w'.heap.size w' w'' := fun w' => by
        rw [← cross_crs (by omega) hin2.out j, hp_get (show 0 < ps.length by omega), hp_get (show j < ps.length by omega), hp_get hlt, hx0.out, hy0.out]
        exact cross_b _ _ _ _ w'
      have c1 : ∀ w', Calls Tryz.prog 97 #[.agg #[.int .i64 ps[j].1, .int .i64 ps[j].2], .agg #[.int .i64 x0, .int .i64 y0]] w' fun e w'' => e = .returned (.agg #[.int .i64 (ps[j].1 - x0), .int .i64 (ps[j].2 - y0)]) ∧ Below w'.heap.size w' w'' := fun w' => by
        rw [← sub_inrP (a := ps[j].1) (b := x0) (by omega) (by omega), ← sub_inrP (a := ps[j].2) (b := y0) (by omega) (by omega)]
        exact vsub_b _ _ _ _ w'
      have c2 : ∀ w', Calls Tryz.prog 97 #[.agg #[.int .i64 ps[j + 1].1, .int .i64 ps[j + 1].2], .agg #[.int .i64 x0, .int .i64 y0]] w' fun e w'' => e = .returned (.agg #[.int .i64 (ps[j + 1].1 - x0), .int .i64 (ps[j + 1].2 - y0)]) ∧ Below w'.heap.size w' w'' := fun w' => by
        rw [← sub_inrP (a := ps[j + 1].1) (b := x0) (by omega) (by omega), ← sub_inrP (a := ps[j + 1].2) (b := y0) (by omega) (by omega)]
        exact vsub_b _ _ _ _ w'
      have hS : Hid (crsS ps (j + 1 - 1) = crsS ps (j - 1) + crs ps j ∧ cenX ps (j + 1 - 1) = cenX ps (j - 1) + (ps[j].1 - x0 + (ps[j + 1].1 - x0)) * crs ps j ∧ cenY ps (j + 1 - 1) = cenY ps (j - 1) + (ps[j].2 - y0 + (ps[j + 1].2 - y0)) * crs ps j) := by
        show _ ∧ _ ∧ _
        rw [← hx0.out, ← hy0.out, ← hp_get (show j < ps.length by omega), ← hp_get hlt, ← hp_get (show 0 < ps.length by omega)]
        obtain ⟨m, rfl⟩ : ∃ m, j = m + 1 := ⟨j - 1, by omega⟩
        refine ⟨rfl, ?_, ?_⟩
        · rw [← Int.add_sub_assoc]; rfl
        · rw [← Int.add_sub_assoc]; rfl
      have be1 : -2097152 ≤ ps[j].1 - x0 ∧ ps[j].1 - x0 ≤ 2097152 := by omega
      have be2 : -2097152 ≤ ps[j].2 - y0 ∧ ps[j].2 - y0 ≤ 2097152 := by omega
      have bf1 : -2097152 ≤ ps[j + 1].1 - x0 ∧ ps[j + 1].1 - x0 ≤ 2097152 := by omega
      have bf2 : -2097152 ≤ ps[j + 1].2 - y0 ∧ ps[j + 1].2 - y0 ≤ 2097152 := by omega
      clear hcell
      generalize ps[j].1 - x0 = e1 at *
      generalize ps[j].2 - y0 = e2 at *
      generalize ps[j + 1].1 - x0 = g1 at *
      generalize ps[j + 1].2 - y0 = g2 at *
      have m1 := mul_between (a := e1 + g1) (b := crs ps j) (A := 4194304) (B := 134217729) (by omega) (by omega) (by omega) (by omega)
      have m2 := mul_between (a := e2 + g2) (b := crs ps j) (A := 4194304) (B := 134217729) (by omega) (by omega) (by omega) (by omega)
      generalize crs ps j = c at *
      generalize crsS ps (j - 1) = s at *
      generalize cenX ps (j - 1) = sx at *
      generalize cenY ps (j - 1) = sy at *
      generalize ps[j].1 = xj at *
      generalize ps[j].2 = yj at *
      generalize ps[j + 1].1 = xn at *
      generalize ps[j + 1].2 = yn at *
      generalize hn2 : ((j - 1 : Nat) : Int) = n2 at *
      clear hn2
      go_wp2_with fail
      apply wp_box2 19 63 17 7 18 8 #[.int .i64 0, .int .i64 0] #[.int .i64 0, .int .i64 0] 24 24 (by kernel_rfl) (by rfl) (by kernel_rfl) (by rfl) (by intro o ho a w; simp at ho; subst ho; simp [go_sem, ptr]) (by intro o ho a w; simp at ho; subst ho; simp [go_sem, ptr])
      · intro p0
        simp only [heads, ghost, List.take_succ_cons, List.take_zero, List.map_cons, List.map_nil]
        repeat (go_big_quiet_step ((first | (go_at_call 97; with_reducible_and_instances exact gw_call (c1 _)) | (go_at_call 97; with_reducible_and_instances exact gw_call (c2 _)))))
        exact wpQuiet_nil rfl
      · intro R bB1 bB2 p0 nB1 nB2 gB1 gB2 neB01 neB01' kB1 kB2 hK
        simp only [List.drop_succ_cons, List.drop_zero, Act.put, ptr, List.setIfInBounds_toArray, List.set_cons_succ, List.set_cons_zero]
        have cB1_0 : _ = some _ := blk_cell kB1 0
        have cB1_1 : _ = some _ := blk_cell kB1 1
        have cB2_0 : _ = some _ := blk_cell kB2 0
        have cB2_1 : _ = some _ := blk_cell kB2 1
        have fB1_0 := blk_free kB1 0
        have fB1_1 := blk_free kB1 1
        have fB2_0 := blk_free kB2 0
        have fB2_1 := blk_free kB2 1
        have oB1 := blk_older kB1
        have oB2 := blk_older kB2
        go_wp2_with fail
        refine box_end2 gB1 gB2 hK ?_ ?_ ?_
        · exact bBel
        · exact (by repeat' (first | with_reducible assumption | with_reducible apply blk_gw | with_reducible apply blk_alloc | with_reducible apply blk_set | ((with_reducible apply blk_other); focus (first | omega | assumption))))
        · exact (by repeat' (first | with_reducible assumption | with_reducible apply blk_gw | with_reducible apply blk_alloc | with_reducible apply blk_set | ((with_reducible apply blk_other); focus (first | omega | assumption))))
      intro bB1 bB2 p0 nB1 nB2 neB01 neB01' kB1 kB2
      have cB1_0 : _ = some _ := blk_cell kB1 0
      have cB1_1 : _ = some _ := blk_cell kB1 1
      have cB2_0 : _ = some _ := blk_cell kB2 0
      have cB2_1 : _ = some _ := blk_cell kB2 1
      have fB1_0 := blk_free kB1 0
      have fB1_1 := blk_free kB1 1
      have fB2_0 := blk_free kB2 0
      have fB2_1 := blk_free kB2 1
      have oB1 := blk_older kB1
      have oB2 := blk_older kB2
      go_upto_region 9 with (go_at_call 85; refine Calls.mono (gw_at (cC _)) ?_; rintro e w1 ⟨rfl, q, rfl⟩)
      refine wp_named ?_
      intro V hV
      have kE : blk V bB1 #[.int .i64 e1, .int .i64 e2] 24 := by rw [hV]; exact blk_gw kB1
      have kG : blk V bB2 #[.int .i64 g1, .int .i64 g2] 24 := by rw [hV]; exact blk_gw kB2
      have kMV : blk V M #[.int .i64 sx, .int .i64 sy] 24 := by rw [hV]; exact blk_gw (blk_gw kM)
      have kRV : blk V w.heap.size #[.int .i64 0, .int .i64 0] 24 := by rw [hV]; exact blk_gw (blk_gw kR)
      have hbV : Below w.heap.size w V := by rw [hV]; exact bBel
      have hzV : wr.heap.size ≤ V.heap.size := by rw [hV]; simp; omega
      have ne1 : bB1 ≠ M := fun e => newer_ge nB1 (by rw [e]; exact blk_lt kM)
      have ne2 : bB2 ≠ M := fun e => newer_ge nB2 (by rw [e]; exact blk_lt kM)
      have hMV := blk_lt kMV
      clear hV nB1 nB2 neB01 neB01' cB1_0 cB1_1 cB2_0 cB2_1 fB1_0 fB1_1 fB2_0 fB2_1 oB1 oB2 kB1 kB2 kM kR ckM_0 ckM_1 fkM_0 fkM_1 okM ckR_0 ckR_1 fkR_0 fkR_1 okR a0 a1 d0 d1 f0 f1 ob c1 c2 cC hbR hszR
      have hszV := hbV.size
      have okE := blk_older kE
      have ckE_0 : _ = some _ := blk_cell kE 0
      have ckE_1 : _ = some _ := blk_cell kE 1
      have fkE_0 := blk_free kE 0
      have fkE_1 := blk_free kE 1
      have okG := blk_older kG
      have ckG_0 : _ = some _ := blk_cell kG 0
      have ckG_1 : _ = some _ := blk_cell kG 1
      have fkG_0 := blk_free kG 0
      have fkG_1 := blk_free kG 1
      have okMV := blk_older kMV
      have ckMV_0 : _ = some _ := blk_cell kMV 0
      have ckMV_1 : _ = some _ := blk_cell kMV 1
      have fkMV_0 := blk_free kMV 0
      have fkMV_1 := blk_free kMV 1
      go_wp2_with fail
      exact ⟨⟨j + 1, by omega, by omega, by rw [hS.out.1]; try go_num, by go_num, by rw [hS.out.2.1, hS.out.2.2]; exact (by apply blk_of; (repeat (first | with_reducible exact kMV | with_reducible apply blk_drew | with_reducible apply blk_gw | with_reducible apply blk_alloc | with_reducible apply blk_set | ((with_reducible apply blk_other); focus omega))); (first | rfl | simp)), (by apply blk_of; (repeat (first | with_reducible exact kRV | with_reducible apply blk_drew | with_reducible apply blk_gw | with_reducible apply blk_alloc | with_reducible apply blk_set | ((with_reducible apply blk_other); focus omega))); (first | rfl | simp)), bBel⟩, by (try go_num); simp [intOf]; (try omega)⟩
    · have i1 : ¬ (j : Int) + 1 < (ps.length : Int) := by omega
      have e : j - 1 = ps.length - 2 := by omega
      rw [e, hX0.out, hY0.out] at kM
      rw [e, hX0.out] at ckM_0
      rw [e, hY0.out] at ckM_1
      rw [e, hS0.out]
      clear e hs hcx hcy
      go_wp2_with fail
      refine wp_region_gw_tail 3 (by kernel_rfl) (by kernel_rfl) ?_
      simp only [List.take_succ_cons, List.take_zero, List.drop_succ_cons, List.drop_zero]
      repeat (go_big_quiet_step ((first | (go_at_call 97; exact gw_call (vsub_b _ _ _ _ _)) | (go_at_call 85; exact gw_call (cross_b _ _ _ _ _)))))
      refine wpQuiet_nil ?_
      intro w1 hw1
      obtain ⟨q, rfl⟩ := hw1
      go_wp2_with fail
      refine post_nmd ?_
      intro Z hZ
      have kZ : blk Z w.heap.size #[.int .i64 SX, .int .i64 SY] 24 := by rw [hZ]; exact (by apply blk_of; (repeat (first | with_reducible exact kR | with_reducible apply blk_drew | with_reducible apply blk_gw | with_reducible apply blk_alloc | with_reducible apply blk_set | ((with_reducible apply blk_other); focus omega))); (first | rfl | simp))
      have hbZ : Below w.heap.size w Z := by rw [hZ]; exact bBel
      clear hZ
      have okZ := blk_older kZ
      have ckZ_0 : _ = some _ := blk_cell kZ 0
      have ckZ_1 : _ = some _ := blk_cell kZ 1
      have fkZ_0 := blk_free kZ 0
      have fkZ_1 := blk_free kZ 1
      exact bodyPost_ret (v := .tuple #[.int .i64 S, .agg #[.int .i64 SX, .int .i64 SY]]) (by simp [results, Tryz.results237, go_sem, ckZ_0, ckZ_1]) rfl ⟨rfl, hbZ⟩

set_option maxHeartbeats 4000000 in
theorem xarea_b (A : Option Addr) (cap : Nat) (ps : List (Int × Int)) (hl : ps.length ≤ 4611686018427387904) (w : World) (ha : Pts w A ps) (hk : ps.length ≤ cap := by first | omega | decide) : Calls Tryz.prog 184 #[.slice A ps.length cap] w fun e w' => e = .returned (.int .i64 (areaP ps)) ∧ Below w.heap.size w w' := by
  have cV := fun w' h => xconv_b A cap ps hl w' h hk
  unfold areaP
  cases hR : cvx ps
  focus
    rw [hR] at cV
    rw [if_neg (by simp)]
    clear hR
    go_enter Tryz.func184, Tryz.ntmps184
    go_wp2_with (go_at_call 182; refine Calls.mono (gw_at (cV _ (Pts.to ha bBel))) ?_; rintro e w1 ⟨rfl, q, rfl⟩)
    go_ret
    exact ⟨rfl, bBel⟩
  rw [hR] at cV
  rw [if_pos rfl]
  obtain ⟨n3, n8, hin, -⟩ := cvx_iff.1 hR
  have cF := fun w' h => xfan_b A cap ps n3 n8 hin w' h
  clear hin hR
  generalize crsS ps (ps.length - 2) = S at *
  generalize cenX ps (ps.length - 2) = X at *
  generalize cenY ps (ps.length - 2) = Y at *
  go_enter Tryz.func184, Tryz.ntmps184
  go_wp2_with (first | (go_at_call 182; refine Calls.mono (gw_at (cV _ (Pts.to ha bBel))) ?_; rintro e w1 ⟨rfl, q, rfl⟩) | (go_at_call 237; refine Calls.mono (gw_at (cF _ (Pts.to ha bBel))) ?_; rintro e w1 ⟨rfl, q2, rfl⟩) | (go_at_call 206; refine Calls.mono (gw_at (rd_b _ _ _)) ?_; rintro e w1 ⟨rfl, q3, rfl⟩))
  go_ret
  exact ⟨rfl, bBel⟩

theorem cen_eq {ps : List Pt} (h : cvx ps = true) : cenP ps = ((hp' ps 0).1 + rdiv (cenX ps (ps.length - 2)) (3 * crsS ps (ps.length - 2)), (hp' ps 0).2 + rdiv (cenY ps (ps.length - 2)) (3 * crsS ps (ps.length - 2))) := by
  unfold cenP
  rw [if_pos h]
  by_cases c : crsS ps (ps.length - 2) = 0
  · rw [if_pos c, c]
    have hz : ∀ n : Int, rdiv n (3 * 0) = 0 := fun n => by unfold rdiv rok; simp
    rw [hz, hz]; simp
  · rw [if_neg c]

set_option maxRecDepth 100000 in
set_option maxHeartbeats 8000000 in
theorem xcen_b (A : Option Addr) (cap : Nat) (ps : List (Int × Int)) (hl : ps.length ≤ 4611686018427387904) (w : World) (ha : Pts w A ps) (hk : ps.length ≤ cap := by first | omega | decide) : Calls Tryz.prog 239 #[.slice A ps.length cap] w fun e w' => e = .returned (.agg #[.int .i64 (cenP ps).1, .int .i64 (cenP ps).2]) ∧ Below w.heap.size w w' := by
  have cV := fun w' h => xconv_b A cap ps hl w' h hk
  cases hR : cvx ps
  focus
    unfold cenP
    rw [hR] at cV
    rw [if_neg (by rw [hR]; simp)]
    clear hR
    go_enter Tryz.func239, Tryz.ntmps239
    go_wp2_with (go_at_call 182; refine Calls.mono (gw_at (cV _ (Pts.to ha bBel))) ?_; rintro e w1 ⟨rfl, q, rfl⟩)
    exact bodyPost_ret (v := .agg #[.int .i64 0, .int .i64 0]) (by simp [results, Tryz.results239, go_sem]; try (first | with_reducible rfl | exact ⟨rfl, rfl⟩ | exact ⟨rfl, rfl, rfl⟩ | exact ⟨rfl, rfl, rfl, rfl⟩ | exact ⟨rfl, rfl, rfl, rfl, rfl⟩ | exact ⟨rfl, rfl, rfl, rfl, rfl, rfl⟩ | rfl)) rfl ⟨rfl, bBel⟩
  have hU := cen_eq hR
  rw [hR] at cV
  obtain ⟨n3, n8, hin, -⟩ := cvx_iff.1 hR
  have cF := fun w' h => xfan_b A cap ps n3 n8 hin w' h
  have hs := crsS_in (ps := ps) (by omega) hin (ps.length - 2)
  obtain ⟨hcx, hcy⟩ := cen_in (ps := ps) (by omega) hin (ps.length - 2)
  have hr1 := rdiv_abs (cenX ps (ps.length - 2)) (3 * crsS ps (ps.length - 2))
  have hr2 := rdiv_abs (cenY ps (ps.length - 2)) (3 * crsS ps (ps.length - 2))
  have n5 : ((ps.length - 2 : Nat) : Int) ≤ 6 := by omega
  have n0 : (0 : Int) < (ps.length : Int) := by omega
  obtain ⟨U, V, hUV⟩ : ∃ U V, Hid (cenP ps = (U, V)) := ⟨_, _, rfl⟩
  have ia := hin _ (List.getElem_mem (show 0 < ps.length by omega))
  rw [hp_get (show 0 < ps.length by omega), hUV.out] at hU
  rw [hUV.out]
  dsimp only
  unfold inrP at ia
  obtain ⟨ia1, ia2, ia3, ia4⟩ := ia
  obtain ⟨b, off, rfl, -⟩ := pts_open0 ha (by omega)
  have hcell : ∀ w', Below w.heap.size w w' → w'.cell? ⟨b, off, none⟩ = some (.int .i64 ps[0].1) ∧ w'.cell? ⟨b, off + 1, none⟩ = some (.int .i64 ps[0].2) := fun w' hb => by
    obtain ⟨b', off', e, hc⟩ := pts_open0 (Pts.to ha hb) (by omega)
    cases e
    have := hc 0 (by omega)
    rw [Nat.zero_mul, Nat.add_zero] at this
    exact this
  clear hR hin hUV
  generalize ps[0].1 = x0 at *
  generalize ps[0].2 = y0 at *
  generalize crsS ps (ps.length - 2) = S at *
  generalize cenX ps (ps.length - 2) = sx at *
  generalize cenY ps (ps.length - 2) = sy at *
  generalize hn2 : ((ps.length - 2 : Nat) : Int) = n2 at *
  clear hn2
  have hs1 : -900000000 ≤ S ∧ S ≤ 900000000 := by omega
  have hx1 : -4000000000000000 ≤ sx ∧ sx ≤ 4000000000000000 := by omega
  have hy1 : -4000000000000000 ≤ sy ∧ sy ≤ 4000000000000000 := by omega
  have hw3 : IntKind.i64.wrap (3 * S) = 3 * S := by rw [IntKind.wrap_i64]; omega
  have hx2 : -4000000000000000 ≤ rdiv sx (3 * S) ∧ rdiv sx (3 * S) ≤ 4000000000000000 := by omega
  have hy2 : -4000000000000000 ≤ rdiv sy (3 * S) ∧ rdiv sy (3 * S) ≤ 4000000000000000 := by omega
  clear hs hcx hcy hr1 hr2
  obtain ⟨r1, hr1⟩ : ∃ r1, Hid (rdiv sx (3 * S) = r1) := ⟨rdiv sx (3 * S), rfl⟩
  obtain ⟨r2, hr2⟩ : ∃ r2, Hid (rdiv sy (3 * S) = r2) := ⟨rdiv sy (3 * S), rfl⟩
  have c1 : ∀ w', Calls Tryz.prog 206 #[.int .i64 sx, .int .i64 (3 * S)] w' fun e w'' => e = .returned (.int .i64 r1) ∧ Below w'.heap.size w' w'' := fun w' => by rw [← hr1.out]; exact rd_b _ _ _
  have c2 : ∀ w', Calls Tryz.prog 206 #[.int .i64 sy, .int .i64 (3 * S)] w' fun e w'' => e = .returned (.int .i64 r2) ∧ Below w'.heap.size w' w'' := fun w' => by rw [← hr2.out]; exact rd_b _ _ _
  rw [hr1.out] at hx2 hU
  rw [hr2.out] at hy2 hU
  obtain ⟨rfl, rfl⟩ : U = x0 + r1 ∧ V = y0 + r2 := ⟨congrArg Prod.fst hU, congrArg Prod.snd hU⟩
  clear hU
  have hw4 : IntKind.i64.wrap (x0 + r1) = x0 + r1 := by rw [IntKind.wrap_i64]; omega
  have hw5 : IntKind.i64.wrap (y0 + r2) = y0 + r2 := by rw [IntKind.wrap_i64]; omega
  go_enter Tryz.func239, Tryz.ntmps239
  go_upto_region 4 with (first | (go_at_call 182; refine Calls.mono (gw_at (cV _ (Pts.to ha bBel))) ?_; rintro e w1 ⟨rfl, q, rfl⟩) | (go_at_call 237; refine Calls.mono (gw_at (cF _ (Pts.to ha bBel))) ?_; rintro e w1 ⟨rfl, q2, rfl⟩))
  refine wp_named ?_
  intro W hW
  have kR : blk W w.heap.size #[.int .i64 0, .int .i64 0] 24 := by rw [hW]; exact bBkn
  have kM : blk W (w.heap.size + 1 + q.os.size + q2.os.size) #[.int .i64 sx, .int .i64 sy] 24 := by rw [hW]; exact bBkn
  have hbW : Below w.heap.size w W := by rw [hW]; exact bBel
  clear hW cV cF
  have hlM : w.heap.size < w.heap.size + 1 + q.os.size + q2.os.size := by omega
  generalize w.heap.size + 1 + q.os.size + q2.os.size = M at *
  obtain ⟨a0, a1⟩ := hcell W hbW
  have ob := older_of_cell a0
  have okR := blk_older kR
  have ckR_0 : _ = some _ := blk_cell kR 0
  have ckR_1 : _ = some _ := blk_cell kR 1
  have fkR_0 := blk_free kR 0
  have fkR_1 := blk_free kR 1
  have okM := blk_older kM
  have ckM_0 : _ = some _ := blk_cell kM 0
  have ckM_1 : _ = some _ := blk_cell kM 1
  have fkM_0 := blk_free kM 0
  have fkM_1 := blk_free kM 1
  have hszW := hbW.size
  clear hcell
  refine wp_region_gw_tail 21 (by kernel_rfl) (by kernel_rfl) ?_
  simp only [List.take_succ_cons, List.take_zero, List.drop_succ_cons, List.drop_zero]
  repeat (go_big_quiet_step ((first | (go_at_call 206; with_reducible_and_instances exact gw_call (c1 _)) | (go_at_call 206; with_reducible_and_instances exact gw_call (c2 _)))))
  refine wpQuiet_nil ?_
  intro w1 hw1
  obtain ⟨q, rfl⟩ := hw1
  go_wp2_with fail
  refine post_nmd ?_
  intro Z hZ
  have kZ : blk Z w.heap.size #[.int .i64 (x0 + r1), .int .i64 (y0 + r2)] 24 := by rw [hZ]; exact (by apply blk_of; (repeat (first | with_reducible exact kR | with_reducible apply blk_drew | with_reducible apply blk_gw | with_reducible apply blk_alloc | with_reducible apply blk_set | ((with_reducible apply blk_other); focus omega))); (first | rfl | simp))
  have hbZ : Below w.heap.size w Z := by rw [hZ]; exact Below.trans hbW bBel
  clear hZ
  have okZ := blk_older kZ
  have ckZ_0 : _ = some _ := blk_cell kZ 0
  have ckZ_1 : _ = some _ := blk_cell kZ 1
  have fkZ_0 := blk_free kZ 0
  have fkZ_1 := blk_free kZ 1
  exact bodyPost_ret (v := .agg #[.int .i64 (x0 + r1), .int .i64 (y0 + r2)]) (by simp [results, Tryz.results239, go_sem, ckZ_0, ckZ_1]) rfl ⟨rfl, hbZ⟩

end Go.Proofs.YtdmcdicphohlfaaGreat

set_option linter.unusedVariables false
namespace Go.Proofs.YtdmcdicphohlfaaGreat
open Go.RowKit Fx

def shm (ps : List Pt) : Nat → Int
  | 0 => 536870911
  | k + 1 => min (shm ps k) (edg ps k)
theorem edg_nn (ps : List Pt) (k : Nat) : 0 ≤ edg ps k := (vlen_is _ _).1
theorem sub_inr' {a b : Int} (ha : -1048576 ≤ a ∧ a ≤ 1048576) (hb : -1048576 ≤ b ∧ b ≤ 1048576) : sub a b = a - b := by
  unfold sub; rw [inr_sat ha.1 ha.2, inr_sat hb.1 hb.2]; exact sat_id (by omega) (by omega)
theorem edg_le {ps : List Pt} (h0 : 0 < ps.length) (hin : ∀ p ∈ ps, inrP p) (k : Nat) : edg ps k ≤ 536870911 := by
  have a := hin _ (hp_mem (h := ps) k h0); have b := hin _ (hp_mem (h := ps) (k + 1) h0)
  unfold inrP at a b
  have h := vlen_sum (sub (hp' ps (k + 1)).1 (hp' ps k).1) (sub (hp' ps (k + 1)).2 (hp' ps k).2)
  unfold edg
  rw [sub_inr' (a := (hp' ps (k + 1)).1) (by omega) (by omega), sub_inr' (a := (hp' ps (k + 1)).2) (by omega) (by omega), sat_id (x := (hp' ps (k + 1)).1 - (hp' ps k).1) (by omega) (by omega), sat_id (x := (hp' ps (k + 1)).2 - (hp' ps k).2) (by omega) (by omega)] at h
  rw [sub_inr' (a := (hp' ps (k + 1)).1) (by omega) (by omega), sub_inr' (a := (hp' ps (k + 1)).2) (by omega) (by omega)]
  omega
theorem shm_shr (ps : List Pt) (hb : ∀ k, edg ps k ≤ 536870911) : ∀ k, 0 < k → shm ps k = shr ps k ∧ 0 ≤ shr ps k
  | 0, h => absurd h (by omega)
  | 1, _ => by
    have h1 := hb 0
    have h2 := edg_nn ps 0
    show min 536870911 (edg ps 0) = (if (-1 : Int) < 0 ∨ edg ps 0 < -1 then edg ps 0 else -1) ∧ 0 ≤ (if (-1 : Int) < 0 ∨ edg ps 0 < -1 then edg ps 0 else -1)
    rw [if_pos (.inl (by omega))]
    omega
  | k + 2, _ => by
    obtain ⟨e, h0⟩ := shm_shr ps hb (k + 1) (by omega)
    have h2 := edg_nn ps (k + 1)
    show min (shm ps (k + 1)) (edg ps (k + 1)) = (if shr ps (k + 1) < 0 ∨ edg ps (k + 1) < shr ps (k + 1) then edg ps (k + 1) else shr ps (k + 1)) ∧ 0 ≤ (if shr ps (k + 1) < 0 ∨ edg ps (k + 1) < shr ps (k + 1) then edg ps (k + 1) else shr ps (k + 1))
    rw [e]
    split <;> omega

set_option maxRecDepth 100000 in
set_option maxHeartbeats 8000000 in
theorem xshort_b (A : Option Addr) (cap : Nat) (ps : List (Int × Int)) (hl : ps.length ≤ 4611686018427387904) (w : World) (ha : Pts w A ps) (hk : ps.length ≤ cap := by first | omega | decide) : Calls Tryz.prog 183 #[.slice A ps.length cap] w fun e w' => e = .returned (.int .i64 (shortP ps)) ∧ Below w.heap.size w w' := by
  have cV := fun w' h => xconv_b A cap ps hl w' h hk
  unfold shortP
  cases hR : cvx ps
  focus
    rw [hR] at cV
    rw [if_neg (by simp)]
    clear hR
    go_enter Tryz.func183, Tryz.ntmps183
    go_wp2_with (go_at_call 182; refine Calls.mono (gw_at (cV _ (Pts.to ha bBel))) ?_; rintro e w1 ⟨rfl, q, rfl⟩)
    go_ret
    exact ⟨rfl, bBel⟩
  rw [hR] at cV
  rw [if_pos rfl]
  obtain ⟨n3, n8, hin, -⟩ := cvx_iff.1 hR
  have hE : ∀ k, edg ps k ≤ 536870911 := fun k => edg_le (by omega) hin k
  rw [← (shm_shr ps hE ps.length (by omega)).1]
  have n3' : (3 : Int) ≤ (ps.length : Int) := by omega
  have n8' : (ps.length : Int) ≤ 8 := by omega
  clear hR hin hE
  go_enter Tryz.func183, Tryz.ntmps183
  go_wp2_with (go_at_call 182; refine Calls.mono (gw_at (cV _ (Pts.to ha bBel))) ?_; rintro e w1 ⟨rfl, q, rfl⟩)
  clear cV
  go_loopw [3, 12] (fun s i wr => ∃ k : Nat, k ≤ ps.length ∧ s = .int .i64 (shm ps k) ∧ i = .int .i64 (k : Int) ∧ ∃ p, wr = gw w p)
    (fun _ i _ => (ps.length - intOf i).toNat)
  case atStart => exact ⟨0, by omega, rfl, rfl, ⟨_, rfl⟩⟩
  case round =>
    obtain ⟨k, hkk, rfl, rfl, p, rfl⟩ := hrel
    by_cases hlt : k < ps.length
    · have i0 : (0 : Int) ≤ (k : Int) := by omega
      have i1 : (k : Int) < (ps.length : Int) := by omega
      have cE := fun w' h => xedge_b A cap ps k hlt (by omega) w' h
      have hS : Hid (shm ps (k + 1) = min (shm ps k) (edg ps k)) := rfl
      have cS : ∀ w', Calls Tryz.prog 97 #[.agg #[.int .i64 (hp' ps (k + 1)).1, .int .i64 (hp' ps (k + 1)).2], .agg #[.int .i64 (hp' ps k).1, .int .i64 (hp' ps k).2]] w' fun e w'' => e = .returned (.agg #[.int .i64 (sub (hp' ps (k + 1)).1 (hp' ps k).1), .int .i64 (sub (hp' ps (k + 1)).2 (hp' ps k).2)]) ∧ Below w'.heap.size w' w'' := fun w' => vsub_b _ _ _ _ w'
      have cL : ∀ w', Calls Tryz.prog 96 #[.agg #[.int .i64 (sub (hp' ps (k + 1)).1 (hp' ps k).1), .int .i64 (sub (hp' ps (k + 1)).2 (hp' ps k).2)]] w' fun e w'' => e = .returned (.int .i64 (edg ps k)) ∧ Below w'.heap.size w' w'' := fun w' => vlen_b _ _ w'
      generalize edg ps k = E at *
      generalize sub (hp' ps (k + 1)).1 (hp' ps k).1 = u at *
      generalize sub (hp' ps (k + 1)).2 (hp' ps k).2 = v at *
      generalize (hp' ps k).1 = fx at *
      generalize (hp' ps k).2 = fy at *
      generalize (hp' ps (k + 1)).1 = tx at *
      generalize (hp' ps (k + 1)).2 = ty at *
      generalize shm ps k = s at *
      go_wp2_with (first | (go_at_call 236; refine Calls.mono (gw_at (cE _ (Pts.to ha bBel))) ?_; rintro e w1 ⟨rfl, q, rfl⟩) | (go_at_call 97; refine Calls.mono (gw_at (cS _)) ?_; rintro e w1 ⟨rfl, q2, rfl⟩) | (go_at_call 96; refine Calls.mono (gw_at (cL _)) ?_; rintro e w1 ⟨rfl, q3, rfl⟩))
      exact ⟨⟨k + 1, by omega, by rw [hS.out], by go_num, gw_of_below bBel⟩, by (try go_num); simp [intOf]; (try omega)⟩
    · obtain rfl : k = ps.length := by omega
      have i1 : ¬ (ps.length : Int) < (ps.length : Int) := by omega
      go_wp2_with fail
      go_ret
      exact ⟨rfl, bBel⟩

end Go.Proofs.YtdmcdicphohlfaaGreat
