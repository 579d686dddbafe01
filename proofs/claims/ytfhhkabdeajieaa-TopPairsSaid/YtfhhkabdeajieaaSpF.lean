/- Chapter 21, Go's library at pairs: slices.Compact, Grow, Concat. -/
import Derived.Test.YtfhhkabdeajieaaSpB
import Derived.Test.YtfhhkabdeajieaaBvZ
import Derived.Lib.SlBuf
import Derived.Lib.AppendZerosOnto
import Derived.Lib.LazyBuf
import Derived.Deep.DeepCutAuto
set_option linter.unusedVariables false
set_option linter.unusedSimpArgs false
namespace Go.Proofs.Ytfhhkabdeajieaa
open Go.RowKit Fx Go.Sort

theorem eql_pair (a b c e : Int) (W : World) : (binOp .eql 44 (.agg #[.int .i64 a, .int .i64 b]) (.agg #[.int .i64 c, .int .i64 e])).run Try.prog W = .ok (.bool (a == c && b == e)) W := by
  rw [run_eql_struct]
  have := eq_pair 9998 a b c e W
  simp only [this, Result.andThen]
theorem gwp_zero (w : World) : gw w ⟨w.drawn, #[]⟩ = w := by unfold gw; simp
theorem ptsp_open {w : World} {A : Option Addr} {ps : List (Int × Int)} (ha : Pts w A ps) (h0 : 0 < ps.length) : ∃ b off, A = some ⟨b, off, none⟩ ∧ ∀ (i : Nat) (h : i < ps.length), w.cell? ⟨b, off + i * 2, none⟩ = some (.int .i64 ps[i].1) ∧ w.cell? ⟨b, off + i * 2 + 1, none⟩ = some (.int .i64 ps[i].2) := by
  rcases ha with h | ⟨b, off, rfl, hc⟩
  · rw [h] at h0; simp at h0
  · exact ⟨b, off, rfl, hc⟩

/-- Block b begins with these points. -/
def RowP (w : World) (b : Nat) (ys : List Pr) (t : TypeId) : Prop := ∃ c, blk w b c t ∧ ∀ i, i < ys.length * 2 → c[i]? = (pv ys)[i]?
theorem RowP.of {w : World} {b : Nat} {ys : List Pr} {t : TypeId} (h : blk w b (pv ys).toArray t) : RowP w b ys t := ⟨_, h, fun i hi => by simp⟩
theorem RowP.pts {w : World} {b : Nat} {ys : List Pr} {t : TypeId} (h : RowP w b ys t) : Pts w (some ⟨b, 0, none⟩) ys := by
  obtain ⟨c, hb, hc⟩ := h
  refine .inr ⟨b, 0, rfl, fun i hi => ?_⟩
  obtain ⟨g1, g2⟩ := pv_get ys i hi
  rw [Nat.zero_add, blk_cell hb, blk_cell hb, hc _ (by omega), hc _ (by omega)]
  exact ⟨g1, g2⟩

theorem gbp_refl (w : World) (b : Nat) : w.grownBy w (some b) := ⟨rfl, rfl, rfl, Nat.le_refl _, fun _ _ _ => rfl⟩
theorem gbp_set {w w' : World} {b i : Nat} {v : Value} (h : w.grownBy w' (some b)) : w.grownBy (w'.setCell ⟨b, i, none⟩ v) (some b) := by
  refine ⟨h.os, h.tape, h.output, by simpa [World.setCell] using h.size, fun k hk hne => ?_⟩
  have : b ≠ k := fun e => hne (by rw [e])
  rw [← h.block k hk hne]
  simp [World.setCell, Array.getElem?_modify, this]
theorem gbp_gw {w w' : World} {b : Nat} {p : Gw} (h : w.grownBy w' (some b)) : w.grownBy (gw w' p) (some b) := by
  have hb := below_gw w' p
  exact ⟨hb.os.trans h.os, hb.tape.trans h.tape, hb.output.trans h.output, Nat.le_trans h.size hb.size, fun k hk hne => (hb.block k (Nat.lt_of_lt_of_le hk h.size)).trans (h.block k hk hne)⟩
theorem gbp_cells {w w' : World} {b : Nat} (vs : List Value) : ∀ o, w.grownBy w' (some b) → w.grownBy (w'.setCells b o vs) (some b) := by
  induction vs generalizing w' with
  | nil => intro o h; exact h
  | cons v vs ih => intro o h; rw [World.setCells]; exact ih _ (gbp_set h)
theorem blkp_cells {w : World} {b : Nat} {t : TypeId} (vs : List Value) : ∀ (o : Nat) (c : Array Value), blk w b c t → ∃ c', blk (w.setCells b o vs) b c' t ∧ ∀ i, i < o → c'[i]? = c[i]? := by
  induction vs generalizing w with
  | nil => intro o c h; exact ⟨c, h, fun _ _ => rfl⟩
  | cons v vs ih =>
    intro o c h
    obtain ⟨c', h1, h2⟩ := ih (w := w.setCell ⟨b, o, none⟩ v) (o + 1) _ (blk_set h)
    refine ⟨c', by rw [World.setCells]; exact h1, fun i hi => ?_⟩
    rw [h2 i (by omega), Array.getElem?_setIfInBounds_ne (by omega)]
theorem RowP.cells {w : World} {b : Nat} {ys : List Pr} {t : TypeId} (vs : List Value) {o : Nat} (h : RowP w b ys t) (ho : ys.length * 2 ≤ o) : RowP (w.setCells b o vs) b ys t := by
  obtain ⟨c, hb, hc⟩ := h
  obtain ⟨c', h1, h2⟩ := blkp_cells vs o c hb
  exact ⟨c', h1, fun i hi => by rw [h2 i (by omega)]; exact hc i hi⟩
theorem RowP.pre {w : World} {b m : Nat} {ys xs : List Pr} {t : TypeId} (h : RowP w b xs t) (hm : xs.take m = ys) : RowP w b ys t := by
  subst hm
  obtain ⟨c, hb, hc⟩ := h
  refine ⟨c, hb, fun i hi => ?_⟩
  have hl : (xs.take m).length ≤ xs.length := by simp; omega
  rw [hc i (by omega)]
  have hi2 : i / 2 < (xs.take m).length := by omega
  obtain ⟨g1, g2⟩ := pv_get xs (i / 2) (by omega)
  obtain ⟨g3, g4⟩ := pv_get (xs.take m) (i / 2) hi2
  rw [List.getElem_take] at g3 g4
  rcases Nat.mod_two_eq_zero_or_one i with hm | hm
  · have e : i / 2 * 2 = i := by omega
    rw [e] at g1 g3
    rw [g1, g3]
  · have e : i / 2 * 2 + 1 = i := by omega
    rw [e] at g2 g4
    rw [g2, g4]
theorem gwp_gb {w w' : World} {b : Nat} (h : Below w.heap.size w w') : w.grownBy w' (some b) := ⟨h.os, h.tape, h.output, h.size, fun k hk _ => h.block k hk⟩

/-- clear of n points. -/
theorem clrp_run (w : World) (b o n c : Nat) (hn : 0 < n) (hc : ∀ j, j < n * 2 → (w.cell? ⟨b, o + j, none⟩).isSome = true) (hf : ∀ j, j < n * 2 → w.frozen? ⟨b, o + j, none⟩ = false) :
    ∃ vs, ∀ ty : TypeId, (Builtin.clear_ #[40] ty #[.slice (some ⟨b, o, none⟩) n c]).run Try.prog w = .ok (.tuple #[]) (w.setCells b o vs) := by
  have hz : (zeroValue 44).run Try.prog w = .ok (.agg #[.int .i64 0, .int .i64 0]) w := by kernel_rfl
  have hl : (Builtin.zeroCells (Value.agg #[.int .i64 0, .int .i64 0]).cells n).toList.length = n * 2 := by
    simp [Builtin.zeroCells, Value.cells]
  have h1 : ∀ v ∈ (Builtin.zeroCells (Value.agg #[.int .i64 0, .int .i64 0]).cells n).toList, v.oneCell' = true := fun v hv => by
    simp [Builtin.zeroCells, Value.cells] at hv
    obtain ⟨i, hi, rfl⟩ := hv
    rcases Nat.mod_two_eq_zero_or_one i with hm | hm <;> simp [hm] <;> rfl
  have hst := run_storeCells_cells (P := Try.prog) b o (Builtin.zeroCells (Value.agg #[.int .i64 0, .int .i64 0]).cells n).toList 0 w (by rw [hl]; simpa using hc) (by rw [hl]; simpa using hf) h1
  simp only [Nat.add_zero] at hst
  obtain ⟨m, rfl⟩ : ∃ m, n = m + 1 := ⟨n - 1, by omega⟩
  refine ⟨(Builtin.zeroCells (Value.agg #[.int .i64 0, .int .i64 0]).cells (m + 1)).toList, fun ty => ?_⟩
  simp [Builtin.clear_, run_underlying Try.underlying40, hz, hst]

theorem RowP.gw {w : World} {b : Nat} {ys : List Pr} {t : TypeId} {p : Gw} (h : RowP w b ys t) : RowP (gw w p) b ys t := by
  obtain ⟨c, hb, hc⟩ := h
  exact ⟨c, blk_gw hb, hc⟩
theorem RowP.free {w : World} {b : Nat} {ys : List Pr} {t : TypeId} (h : RowP w b ys t) (i : Nat) : w.frozen? ⟨b, i, none⟩ = false := by
  obtain ⟨c, hb, -⟩ := h
  exact blk_free hb i
theorem RowP.old {w : World} {b : Nat} {ys : List Pr} {t : TypeId} (h : RowP w b ys t) : older b w = true := by
  obtain ⟨c, hb, -⟩ := h
  exact blk_older hb
theorem RowP.at {w : World} {b i : Nat} {ys : List Pr} {t : TypeId} (h : RowP w b ys t) (hi : i < ys.length) : w.cell? ⟨b, i * 2, none⟩ = some (.int .i64 ys[i].1) ∧ w.cell? ⟨b, i * 2 + 1, none⟩ = some (.int .i64 ys[i].2) := by
  obtain ⟨c, hb, hc⟩ := h
  obtain ⟨g1, g2⟩ := pv_get ys i hi
  rw [blk_cell hb, blk_cell hb, hc _ (by omega), hc _ (by omega)]
  exact ⟨g1, g2⟩
theorem RowP.set {w : World} {b m : Nat} {xs : List Pr} {t : TypeId} (h : RowP w b xs t) (hm : m < xs.length) (x y : Int) : RowP ((w.setCell ⟨b, m * 2, none⟩ (.int .i64 x)).setCell ⟨b, m * 2 + 1, none⟩ (.int .i64 y)) b (xs.set m (x, y)) t := by
  obtain ⟨c, hb, hc⟩ := h
  refine ⟨_, blk_set (blk_set hb), fun i hi => ?_⟩
  rw [List.length_set] at hi
  have hci : i < c.size := by
    have := hc i hi
    rw [List.getElem?_eq_getElem (by rw [pv_length]; exact hi)] at this
    exact (Array.getElem?_eq_some_iff.1 this).1
  rw [← pv_set, Array.getElem?_setIfInBounds, Array.getElem?_setIfInBounds, List.getElem?_set, List.getElem?_set, hc i hi]
  simp only [List.length_set, pv_length, Array.size_setIfInBounds]
  by_cases h1 : m * 2 + 1 = i
  · subst h1; simp [hci, hi]
  · rw [if_neg h1, if_neg h1]
    by_cases h2 : m * 2 = i
    · subst h2; simp [hci, hi]
    · rw [if_neg h2, if_neg h2]


set_option maxRecDepth 100000 in
set_option maxHeartbeats 16000000 in
theorem compP_b (B cap : Nat) (ps : List Pr) (hk : ps.length ≤ cap) (hc64 : ps.length ≤ 1000000) (w : World) (h : RowP w B ps 44) : Calls Try.prog 54 #[.slice (some ⟨B, 0, none⟩) ps.length cap] w fun e w' => e = .returned (.slice (some ⟨B, 0, none⟩) (ddp ps).length cap) ∧ RowP w' B (ddp ps) 44 ∧ w.grownBy w' (some B) := by
  obtain ⟨R, hR⟩ : ∃ R, Hid (ddp ps = R) := ⟨_, rfl⟩
  rw [hR.out]
  by_cases n2 : ps.length < 2
  focus
    obtain rfl : ps = R := by
      rw [← hR.out]
      match ps, n2 with
      | [], _ => rfl
      | [a], _ => rfl
    have n2' : (ps.length : Int) < 2 := by omega
    clear hR n2
    go_enter Try.func54, Try.ntmps54
    go_wp2_with fail
    exact bodyPost_ret (v := .slice (some ⟨B, 0, none⟩) ps.length cap) (by simp [results, Try.results54, go_sem]) rfl ⟨rfl, h, gbp_refl _ _⟩
  have n2' : ¬ (ps.length : Int) < 2 := by omega
  go_enter Try.func54, Try.ntmps54
  go_wp2_with fail
  go_loopw [3] (fun i wr => ∃ k : Nat, k + 1 ≤ ps.length ∧ i = .int .i64 ((k : Int) + 1) ∧ Hid (ddp (ps.take (k + 1)) = ps.take (k + 1)) ∧ ∃ p, wr = gw w p)
    (fun i _ => (ps.length - intOf i).toNat)
  case atStart => exact ⟨0, by omega, rfl, by
    match ps, n2 with
    | a :: r, _ => rfl, ⟨⟨w.drawn, #[]⟩, (gwp_zero w).symm⟩⟩
  case round =>
    obtain ⟨k, hk1, rfl, hdd, p, rfl⟩ := hrel
    have kc : k + 1 ≤ 1000000 := by omega
    by_cases hlt : k + 1 < ps.length
    · have i0 : (0 : Int) ≤ (k : Int) := by omega
      have i1 : (k : Int) + 1 < (ps.length : Int) := by omega
      have i2 : (k : Int) < (ps.length : Int) := by omega
      have i3 : (0 : Int) ≤ (k : Int) + 1 := by omega
      have i5 : (k : Int) + 1 ≤ (cap : Int) := by omega
      have i6 : (k : Int) + 1 ≤ (ps.length : Int) := by omega
      have i7 : (ps.length : Int) ≤ (cap : Int) := by omega
      have i4 : IntKind.i64.wrap ((k : Int) + 1) = (k : Int) + 1 := by rw [IntKind.wrap_i64]; omega
      have hP : Pts (gw w p) (some ⟨B, 0, none⟩) ps := h.pts.gw p
      obtain ⟨b', off', hE, hcell⟩ := ptsp_open hP (by omega)
      cases hE
      have d01 := hcell k (by omega)
      have f01 := hcell (k + 1) hlt
      rw [Nat.zero_add] at d01 f01
      obtain ⟨d0, d1⟩ := d01
      obtain ⟨f0, f1⟩ := f01
      have ob := older_of_cell d0
      have htk := ddp_take (ps := ps) (k := k + 1) (by omega) hlt
      have htk2 : Hid (ddp (ps.take (k + 1 + 1)) = if ps[k] = ps[k + 1] then ddp (ps.take (k + 1)) else ddp (ps.take (k + 1)) ++ [ps[k + 1]]) := htk
      have hsn : Hid (ps.take (k + 1 + 1) = ps.take (k + 1) ++ [ps[k + 1]]) := (List.take_append_getElem hlt).symm
      clear htk hcell
      obtain ⟨xk, hxk⟩ : ∃ x, Hid (ps[k].1 = x) := ⟨ps[k].1, rfl⟩
      obtain ⟨yk, hyk⟩ : ∃ x, Hid (ps[k].2 = x) := ⟨ps[k].2, rfl⟩
      obtain ⟨xn, hxn⟩ : ∃ x, Hid (ps[k + 1].1 = x) := ⟨ps[k + 1].1, rfl⟩
      obtain ⟨yn, hyn⟩ : ∃ x, Hid (ps[k + 1].2 = x) := ⟨ps[k + 1].2, rfl⟩
      rw [hxk.out] at d0
      rw [hyk.out] at d1
      rw [hxn.out] at f0
      rw [hyn.out] at f1
      by_cases c : xn = xk ∧ yn = yk
      rotate_left
      · have hg : Hid (ddp (ps.take (k + 1 + 1)) = ps.take (k + 1 + 1)) := by
          show _ = _
          rw [htk2.out, if_neg (fun e => c ⟨by rw [← hxn.out, ← hxk.out, e], by rw [← hyn.out, ← hyk.out, e]⟩), hdd.out, hsn.out]
        have hq : ∀ W, (binOp .eql 44 (.agg #[.int .i64 xn, .int .i64 yn]) (.agg #[.int .i64 xk, .int .i64 yk])).run Try.prog W = .ok (.bool false) W := fun W => by rw [eql_pair]; simp; exact fun h1 h2 => c ⟨h1, h2⟩
        clear hdd htk2 hsn c hxk hyk hxn hyn
        go_wp2_with fail
        refine wp_region_gw (by kernel_rfl) (by kernel_rfl) ?_
        repeat (go_big_quiet_step (fail))
        refine wpQuiet_nil ?_
        intro w1 hw1
        obtain ⟨q, rfl⟩ := hw1
        go_wp2_with fail
        exact ⟨⟨k + 1, by omega, by go_num, hg, gw_gw _ _ _⟩, by (try go_num); simp [intOf]; (try omega)⟩
      · have hq : ∀ W, (binOp .eql 44 (.agg #[.int .i64 xn, .int .i64 yn]) (.agg #[.int .i64 xk, .int .i64 yk])).run Try.prog W = .ok (.bool true) W := fun W => by rw [eql_pair]; simp; exact c
        have hg : Hid (ddp (ps.take (k + 1 + 1)) = ps.take (k + 1)) := by
          show _ = _
          rw [htk2.out, if_pos (Prod.ext (by rw [hxk.out, hxn.out, c.1]) (by rw [hyk.out, hyn.out, c.2])), hdd.out]
        clear hdd htk2 hsn c hxk hyk hxn hyn
        go_wp2_with fail
        refine wp_region_gw (by kernel_rfl) (by kernel_rfl) ?_
        repeat (go_big_quiet_step (fail))
        refine wpQuiet_nil ?_
        intro w1 hw1
        obtain ⟨q, rfl⟩ := hw1
        go_wp2_with fail
        clear d0 d1 f0 f1 ob hP hq i0 i1 i2 i3 i4 i5 i6 hk1
        obtain ⟨N, hN⟩ : ∃ N, Hid (ps.length - (k + 1) = N) := ⟨ps.length - (k + 1), rfl⟩
        rw [hN.out]
        obtain ⟨hN2, hN3⟩ : k + 1 + N ≤ ps.length ∧ ps.length ≤ k + 1 + N := by have := hN.out; omega
        go_loopw [3, 5] (fun a b wr => ∃ (m j : Nat) (xs : List Pr), a = .int .i64 (m : Int) ∧ b = .int .i64 ((j : Int) + 1) ∧ j + 1 ≤ N ∧ 1 ≤ m ∧ m ≤ k + 1 + j ∧ Hid (xs.length = ps.length ∧ xs.take m = ddp (ps.take (k + 1 + (j + 1))) ∧ ∀ i, k + 1 + j ≤ i → xs[i]? = ps[i]?) ∧ RowP wr B xs 44 ∧ w.grownBy wr (some B))
          (fun _ b _ => (N - intOf b).toNat)
        case atStart => exact ⟨k + 1, 0, ps, by go_num, rfl, by omega, by omega, by omega, ⟨rfl, hg.out.symm, fun i _ => rfl⟩, RowP.gw (RowP.gw h), gbp_gw (gbp_gw (gbp_refl _ _))⟩
        case round =>
          obtain ⟨m, j, xs, rfl, rfl, hj, hm1, hm2, hxs, hrow, hgb⟩ := hrel
          have m0 : (0 : Int) ≤ (m : Int) := by omega
          have m1 : (m : Int) < (ps.length : Int) := by omega
          have m2 : (m : Int) ≤ (ps.length : Int) := by omega
          have m3 : (m : Int) ≤ (cap : Int) := by omega
          have j64 : j ≤ 1000000 := by omega
          have hml : m < ps.length := by omega
          have hlx : Hid (xs.length = ps.length) := hxs.out.1
          generalize wr = V at *
          have oV := hrow.old
          by_cases hjl : j + 1 < N
          · have j0 : (0 : Int) ≤ (j : Int) := by omega
            have j1 : (j : Int) + 1 < (N : Int) := by omega
            have j2 : (j : Int) < (N : Int) := by omega
            have j3 : (0 : Int) ≤ (j : Int) + 1 := by omega
            have j4 : IntKind.i64.wrap ((j : Int) + 1) = (j : Int) + 1 := by rw [IntKind.wrap_i64]; omega
            have hix : k + 1 + (j + 1) < xs.length := by rw [hlx.out]; omega
            obtain ⟨d0, d1⟩ := hrow.at (i := k + 1 + j) (by omega)
            obtain ⟨f0, f1⟩ := hrow.at (i := k + 1 + (j + 1)) hix
            obtain ⟨g0, g1⟩ := hrow.at (i := m) (by rw [hlx.out]; exact hml)
            have fm0 := hrow.free (m * 2)
            have fm1 := hrow.free (m * 2 + 1)
            have e1 : xs[k + 1 + j]'(by omega) = ps[k + 1 + j]'(by omega) := by
              have := hxs.out.2.2 (k + 1 + j) (by omega)
              rw [List.getElem?_eq_getElem (by omega), List.getElem?_eq_getElem (by omega)] at this
              exact Option.some.inj this
            have e2 : xs[k + 1 + (j + 1)] = ps[k + 1 + (j + 1)]'(by omega) := by
              have := hxs.out.2.2 (k + 1 + (j + 1)) (by omega)
              rw [List.getElem?_eq_getElem (by omega), List.getElem?_eq_getElem (by omega)] at this
              exact Option.some.inj this
            have htk := ddp_take (ps := ps) (k := k + 1 + (j + 1)) (by omega) (by omega)
            have htk2 : Hid (ddp (ps.take (k + 1 + (j + 1 + 1))) = if xs[k + 1 + j] = xs[k + 1 + (j + 1)] then ddp (ps.take (k + 1 + (j + 1))) else ddp (ps.take (k + 1 + (j + 1))) ++ [xs[k + 1 + (j + 1)]]) := by
              show _ = _
              rw [e1, e2]
              exact htk
            rw [show (k + 1 + j) * 2 = (k + 1) * 2 + j * 2 from by omega] at d0 d1
            rw [show (k + 1 + (j + 1)) * 2 = (k + 1) * 2 + (j + 1) * 2 from by omega] at f0 f1
            clear e1 e2 htk
            generalize xs[m].1 = gx at *
            generalize xs[m].2 = gy at *
            generalize xs[k + 1 + j] = P0 at *
            generalize xs[k + 1 + (j + 1)] = P1 at *
            obtain ⟨uk, vk⟩ := P0
            obtain ⟨un, vn⟩ := P1
            dsimp only at d0 d1 f0 f1
            by_cases c : un = uk ∧ vn = vk
            · have hq : ∀ W, (binOp .neq 44 (.agg #[.int .i64 un, .int .i64 vn]) (.agg #[.int .i64 uk, .int .i64 vk])).run Try.prog W = .ok (.bool false) W := fun W => by rw [neq_pair]; simp; exact c
              have hx2 : Hid (xs.length = ps.length ∧ xs.take m = ddp (ps.take (k + 1 + (j + 1 + 1))) ∧ ∀ i, k + 1 + (j + 1) ≤ i → xs[i]? = ps[i]?) := by
                refine ⟨hxs.out.1, ?_, fun i hi => hxs.out.2.2 i (by omega)⟩
                rw [htk2.out, if_pos (by rw [c.1, c.2]), hxs.out.2.1]
              clear hxs htk2 c
              go_wp2_with fail
              refine wp_region_gw (by kernel_rfl) (by kernel_rfl) ?_
              repeat (go_big_quiet_step (fail))
              refine wpQuiet_nil ?_
              intro w1 hw1
              obtain ⟨q, rfl⟩ := hw1
              go_wp2_with fail
              exact ⟨⟨m, j + 1, xs, by go_num, by go_num, by omega, by omega, by omega, hx2, hrow.gw, gbp_gw hgb⟩, by (try go_num); simp [intOf]; (try omega)⟩
            · have hx2 : Hid ((xs.set m (un, vn)).length = ps.length ∧ (xs.set m (un, vn)).take (m + 1) = ddp (ps.take (k + 1 + (j + 1 + 1))) ∧ ∀ i, k + 1 + (j + 1) ≤ i → (xs.set m (un, vn))[i]? = ps[i]?) := by
                refine ⟨by rw [List.length_set]; exact hxs.out.1, ?_, fun i hi => ?_⟩
                · rw [htk2.out, if_neg (fun e => c ⟨(congrArg Prod.fst e).symm, (congrArg Prod.snd e).symm⟩), ← hxs.out.2.1]
                  rw [← List.take_append_getElem (show m < (xs.set m (un, vn)).length by rw [List.length_set]; omega), List.take_set_of_le (Nat.le_refl _), List.getElem_set_self]
                · rw [List.getElem?_set_ne (by omega)]; exact hxs.out.2.2 i (by omega)
              have hq : ∀ W, (binOp .neq 44 (.agg #[.int .i64 un, .int .i64 vn]) (.agg #[.int .i64 uk, .int .i64 vk])).run Try.prog W = .ok (.bool true) W := fun W => by rw [neq_pair]; simp; exact Classical.not_and_iff_not_or_not.1 c
              have hrow2 : ∀ q, RowP (gw ((V.setCell ⟨B, m * 2, none⟩ (.int .i64 un)).setCell ⟨B, m * 2 + 1, none⟩ (.int .i64 vn)) q) B (xs.set m (un, vn)) 44 := fun q => RowP.gw (hrow.set (by rw [hlx.out]; exact hml) un vn)
              clear hxs htk2 c
              go_wp2_with fail
              refine wp_region_gw (by kernel_rfl) (by kernel_rfl) ?_
              repeat (go_big_quiet_step (fail))
              refine wpQuiet_nil ?_
              intro w1 hw1
              obtain ⟨q, rfl⟩ := hw1
              go_wp2_with fail
              exact ⟨⟨m + 1, j + 1, xs.set m (un, vn), by go_num, by go_num, by omega, by omega, by omega, hx2, hrow2 _, gbp_gw (gbp_set (gbp_set hgb))⟩, by (try go_num); simp [intOf]; (try omega)⟩
          · have j1 : ¬ (j : Int) + 1 < (N : Int) := by omega
            have hend : k + 1 + (j + 1) = ps.length := by omega
            have hfin : xs.take m = R := by rw [hxs.out.2.1, hend, List.take_length, hR.out]
            have hmR : m = R.length := by rw [← hfin, List.length_take, hlx.out]; omega
            obtain ⟨vs, hcl⟩ := clrp_run V B (m * 2) (ps.length - m) (cap - m) (by omega) (fun i hi => by
              rcases Nat.mod_two_eq_zero_or_one i with hm | hm
              · have := (hrow.at (i := m + i / 2) (by rw [hlx.out]; omega)).1
                rw [show (m + i / 2) * 2 = m * 2 + i from by omega] at this
                rw [this]; rfl
              · have := (hrow.at (i := m + i / 2) (by rw [hlx.out]; omega)).2
                rw [show (m + i / 2) * 2 + 1 = m * 2 + i from by omega] at this
                rw [this]; rfl) (fun i hi => hrow.free _)
            have hRow : RowP (V.setCells B (m * 2) vs) B R 44 := RowP.cells vs (hrow.pre hfin) (by omega)
            have hGb : w.grownBy (V.setCells B (m * 2) vs) (some B) := gbp_cells vs _ hgb
            clear hxs hfin hend hR hN
            subst hmR
            go_wp2_with fail
            exact bodyPost_ret (v := .slice (some ⟨B, 0, none⟩) R.length cap) (by simp [results, Try.results54, go_sem]) rfl ⟨rfl, hRow, hGb⟩
    · have hke : k + 1 = ps.length := by omega
      have i1 : ¬ (k : Int) + 1 < (ps.length : Int) := by omega
      obtain rfl : ps = R := by have := hdd.out; rw [hke, List.take_length] at this; rw [← hR.out, this]
      clear hdd hR
      go_wp2_with fail
      exact bodyPost_ret (v := .slice (some ⟨B, 0, none⟩) ps.length cap) (by simp [results, Try.results54, go_sem]) rfl ⟨rfl, h.gw, gbp_gw (gbp_refl _ _)⟩


set_option maxRecDepth 100000 in
set_option maxHeartbeats 4000000 in
theorem growP_b (n : Nat) (hn : n ≤ 1000000) (w : World) : Calls Try.prog 55 #[.slice none 0 0, .int .i64 n] w fun e w' => (∃ v, e = .returned v ∧ w'.ownsRow w.heap.size 44 2 v 0 []) ∧ Below w.heap.size w w' := by
  obtain ⟨i0, hi, hz0, hz1, hz2⟩ := info_parts info_pair
  have h1 : ¬ ((n : Int) < 0) := by omega
  by_cases h0 : n = 0
  focus
    subst h0
    go_enter Try.func55, Try.ntmps55
    go_wp2_with fail
    go_ret
    exact ⟨⟨_, rfl, World.ownsRow_nil _ _ _ _⟩, bBel⟩
  have h4 : (n : Int) > 0 := by omega
  have hrz : ∀ ty, (Builtin.append_ #[40, 3] ty #[.slice none 0 0, .int .i64 (n : Int)]).run Try.prog w = _ := fun ty =>
    Go.Lib.run_append_grow_zeros (P := Try.prog) w 40 3 ty 44 i0 (.agg #[.int .i64 0, .int .i64 0]) .i64 .i64 Try.underlying40 Try.underlying3 hi hz0 none 0 0 [] (run_firstCells_none w.drew i0.size 0 0 0) n (by omega) (by omega) (by omega) (by omega) (by rw [hz2]; omega) (growslice_fits (by omega) (by rw [hz2]; omega))
  obtain ⟨G, hG⟩ : ∃ G, G = grownCap w (0 + n) 0 44 := ⟨_, rfl⟩
  have hGn : 0 + n ≤ G := by rw [hG]; exact grownCap_ge w _ _ _
  have hG63 : G ≤ maxLen := by rw [hG]; exact grownCap_le_maxLen w (0 + n) 0 44 (by unfold maxLen; omega)
  rw [← hG] at hrz
  have hcur : (([] : List Value).toArray ++ Builtin.zeroCells (Value.agg #[.int .i64 0, .int .i64 0]).cells n ++ Builtin.zeroCells (Value.agg #[.int .i64 0, .int .i64 0]).cells (G - (0 + n))).size = G * 2 := by
    rw [Array.size_append, Array.size_append, size_zeroCells, size_zeroCells]
    simp [Value.cells]
    omega
  generalize (([] : List Value).toArray ++ Builtin.zeroCells (Value.agg #[.int .i64 0, .int .i64 0]).cells n ++ Builtin.zeroCells (Value.agg #[.int .i64 0, .int .i64 0]).cells (G - (0 + n))) = cur at *
  clear hG
  have hown : (w.drew.alloc (.cells cur 44)).ownsRow w.heap.size 44 2 (.slice (some ⟨w.heap.size, 0, none⟩) 0 G) 0 [] :=
    ⟨by simp, .inr ⟨w.heap.size, G, cur, rfl, Nat.le_refl _, blk_new w.drew _ _, Nat.zero_le _, hG63, by omega, by simp⟩⟩
  have hG' : (G : Int) ≤ 9223372036854775807 := by unfold maxLen at hG63; omega
  clear hcur
  go_enter Try.func55, Try.ntmps55
  go_wp2_with (at_builtin; refine Go.Lib.wpList_append_run _ rfl _ _ _ _ rfl _ _ rfl rfl _ _ (hrz _) ?_)
  all_goals (go_ret; exact ⟨⟨_, rfl, hown⟩, bBel⟩)

set_option maxRecDepth 100000 in
set_option maxHeartbeats 4000000 in
/-- slices.Concat at two slices of pairs. -/
theorem catP_b (B : Nat) (A1 A2 : Option Addr) (n1 c1 n2 c2 : Nat) (xs ys : List Pr) (h1 : xs.length = n1) (h2 : ys.length = n2) (l1 : n1 ≤ 100000) (l2 : n2 ≤ 100000) (hA1 : A1 = none → c1 = 0) (hA2 : A2 = none → c2 = 0) (w : World) (tB : TypeId) (hb : blk w B #[.slice A1 n1 c1, .slice A2 n2 c2] tB) (hp1 : Pts w A1 xs) (hp2 : Pts w A2 ys) : Calls Try.prog 35 #[.slice (some ⟨B, 0, none⟩) 2 2] w fun e w' => (∃ v, e = .returned v ∧ w'.ownsRow w.heap.size 44 2 v (n1 + n2) (pv (xs ++ ys))) ∧ Below w.heap.size w w' := by
  obtain ⟨i0, hi, hz0, hz1, hz2⟩ := info_parts info_pair
  have hBlt := blk_lt hb
  have cell0 : ∀ w', Below w.heap.size w w' → w'.cell? ⟨B, 0, none⟩ = some (.slice A1 n1 c1) := fun w' h => (h.cell (p := ⟨B, 0, none⟩) hBlt).trans (blk_cell hb 0)
  have cell1 : ∀ w', Below w.heap.size w w' → w'.cell? ⟨B, 1, none⟩ = some (.slice A2 n2 c2) := fun w' h => (h.cell (p := ⟨B, 1, none⟩) hBlt).trans (blk_cell hb 1)
  have cG := fun w' => growP_b (n1 + n2) (by omega) w'
  go_enter Try.func35, Try.ntmps35
  go_wp2_with fail
  go_loopw [3, 11] (fun s i wr => ∃ k m : Nat, k ≤ 2 ∧ i = .int .i64 k ∧ s = .int .i64 m ∧ (k = 0 → m = 0) ∧ (k = 1 → m = n1) ∧ (k = 2 → m = n1 + n2) ∧ Below w.heap.size w wr)
    (fun _ i _ => (2 - intOf i).toNat)
  case atStart => exact ⟨0, 0, by omega, rfl, rfl, by omega, by omega, by omega, bBel⟩
  case round =>
    obtain ⟨k, m, hk, rfl, rfl, g0, g1, g2, hbw⟩ := hrel
    have hsz := hbw.size
    have d0 := cell0 _ hbw
    have d1 := cell1 _ hbw
    have o0 := older_of_cell d0
    by_cases hk0 : k = 0
    · subst hk0
      obtain rfl := g0 rfl
      clear g0 g1 g2
      have e1 : ¬ ((n1 : Int) < 0) := by omega
      go_wp2_with fail
      exact ⟨⟨1, n1, by omega, by go_num, by go_num, by omega, by omega, by omega, bBel⟩, by (try go_num); simp [intOf]; (try omega)⟩
    by_cases hk1 : k = 1
    · subst hk1
      obtain rfl := g1 rfl
      clear g0 g1 g2
      have e1 : ¬ ((m : Int) + (n2 : Int) < 0) := by omega
      go_wp2_with fail
      exact ⟨⟨2, m + n2, by omega, by go_num, by go_num, by omega, by omega, by omega, bBel⟩, by (try go_num); simp [intOf]; (try omega)⟩
    obtain rfl : k = 2 := by omega
    obtain rfl := g2 rfl
    clear g0 g1 g2 hk0 hk1
    have e1 : wrap64 ((n1 : Int) + (n2 : Int)) = (n1 : Int) + (n2 : Int) := by unfold wrap64; omega
    go_wp2_with (go_at_call 55; refine Calls.mono (gw_ex (cG _)) ?_; rintro e w1 ⟨⟨v, rfl, hown⟩, q, rfl⟩)
    have hown0 := owns_mono hown hsz
    have hb0 : Below w.heap.size w (gw wr q) := Below.trans hbw bBel
    generalize gw wr q = W at *
    clear hown
    go_loopw [6, 27] (fun u i wx => ∃ (k n : Nat) (cs : List Pr), k ≤ 2 ∧ i = .int .i64 k ∧ wx.ownsRow w.heap.size 44 2 u n (pv cs) ∧ (k = 0 → cs = [] ∧ n = 0) ∧ (k = 1 → cs = xs ∧ n = n1) ∧ (k = 2 → cs = xs ++ ys ∧ n = n1 + n2) ∧ Below w.heap.size w wx)
      (fun _ i _ => (2 - intOf i).toNat)
    case atStart => exact ⟨0, 0, [], by omega, rfl, hown0, fun _ => ⟨rfl, rfl⟩, by omega, by omega, hb0⟩
    case round =>
      obtain ⟨k, m, cs, hk, rfl, hownr, g0, g1, g2, hbr⟩ := hrel
      have hsr := hbr.size
      have d0' := cell0 _ hbr
      have d1' := cell1 _ hbr
      have o0' := older_of_cell d0'
      by_cases hk0 : k = 0
      · subst hk0
        obtain ⟨rfl, rfl⟩ := g0 rfl
        clear g0 g1 g2
        go_wp2_with (at_builtin; refine wpList_appQ rfl _ _ 40 rfl w.heap.size 44 i0 (.agg #[.int .i64 0, .int .i64 0]) 16 (by kernel_rfl) hi hz0 hz1 hz2 rfl _ _ _ rfl hownr _ _ _ xs rfl hA1 h1 (Pts.to hp1 bBel) (by unfold maxLen; omega) (by omega) (by first | (simp; omega) | omega) ?_; intro v3 w3 hown3 hb3)
        rw [← pv_append20, List.nil_append, Nat.zero_add] at hown3
        exact ⟨⟨1, n1, xs, by omega, by go_num, hown3, by omega, fun _ => ⟨rfl, rfl⟩, by omega, Below.trans bBel hb3⟩, by (try go_num); simp [intOf]; (try omega)⟩
      by_cases hk1 : k = 1
      · subst hk1
        obtain ⟨rfl, rfl⟩ := g1 rfl
        clear g0 g1 g2
        go_wp2_with (at_builtin; refine wpList_appQ rfl _ _ 40 rfl w.heap.size 44 i0 (.agg #[.int .i64 0, .int .i64 0]) 16 (by kernel_rfl) hi hz0 hz1 hz2 rfl _ _ _ rfl hownr _ _ _ ys rfl hA2 h2 (Pts.to hp2 bBel) (by unfold maxLen; omega) (by omega) (by first | (simp; omega) | omega) ?_; intro v3 w3 hown3 hb3)
        rw [← pv_append20] at hown3
        exact ⟨⟨2, _, _, by omega, by go_num, hown3, by omega, by omega, fun _ => ⟨rfl, rfl⟩, Below.trans bBel hb3⟩, by (try go_num); simp [intOf]; (try omega)⟩
      obtain rfl : k = 2 := by omega
      obtain ⟨rfl, rfl⟩ := g2 rfl
      clear g0 g1 g2 hk0 hk1
      go_wp2_with fail
      go_ret
      exact ⟨⟨_, rfl, hownr⟩, bBel⟩

end Go.Proofs.Ytfhhkabdeajieaa
