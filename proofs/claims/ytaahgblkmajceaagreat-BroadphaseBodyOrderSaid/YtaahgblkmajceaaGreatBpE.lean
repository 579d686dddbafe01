/- Chapter 22: the reference's Keys, ValidKeys. -/
import Derived.Test.YtaahgblkmajceaaGreatBpB
set_option linter.unusedVariables false
set_option linter.unusedSimpArgs false
namespace Go.Proofs.YtaahgblkmajceaaGreat
open Go.RowKit Fx

theorem neq_kyS (a p b q : Int) (W : World) : (binOp .neq 60 (.agg #[.int .i64 a, .int .i64 p, .int .i64 b, .int .i64 q]) (.agg #[.int .i64 a, .int .i64 p, .int .i64 b, .int .i64 q])).run Tryz.prog W = .ok (.bool false) W := by simp [go_sem]

theorem neq_kyD (a p b q a2 p2 b2 q2 : Int) (h : ¬ (a = a2 ∧ p = p2 ∧ b = b2 ∧ q = q2)) (W : World) : (binOp .neq 60 (.agg #[.int .i64 a, .int .i64 p, .int .i64 b, .int .i64 q]) (.agg #[.int .i64 a2, .int .i64 p2, .int .i64 b2, .int .i64 q2])).run Tryz.prog W = .ok (.bool true) W := by
  by_cases h1 : a = a2
  · by_cases h2 : p = p2
    · by_cases h3 : b = b2
      · have h4 : ¬ q = q2 := fun e => h ⟨h1, h2, h3, e⟩
        simp [go_sem, h1, h2, h3, h4]
      · simp [go_sem, h1, h2, h3]
    · simp [go_sem, h1, h2]
  · simp [go_sem, h1]

theorem take_eqK {α : Type} {xs ys : List α} {k : Nat} (h : xs.take k = ys.take k) (h1 : k < xs.length) (h2 : k < ys.length) (e : xs[k] = ys[k]) : xs.take (k + 1) = ys.take (k + 1) := by
  rw [← List.take_append_getElem h1, ← List.take_append_getElem h2, h, e]

set_option maxRecDepth 100000 in
set_option maxHeartbeats 4000000 in
theorem rkeys_b (A1 A2 : Option Addr) (c1 c2 : Nat) (xs ys : List Ky) (w : World) (h1 : Kys w A1 xs) (h2 : Kys w A2 ys) (D : Bool) (hD : decide (xs = ys) = D) (hx : xs.length ≤ 1000000000) : Calls Tryz.prog 11 #[.slice A1 xs.length c1, .slice A2 ys.length c2] w fun e w' => e = .returned (.bool D) ∧ Below w.heap.size w w' := by
  by_cases hl : xs.length = ys.length
  rotate_left
  · obtain rfl : D = false := by rw [← hD]; simp; intro e; exact hl (by rw [e])
    clear h1 h2 hD
    generalize xs.length = n at *
    generalize ys.length = m at *
    go_enter Tryz.func11, Tryz.ntmps11
    go_wp2_with fail
    go_ret
    exact ⟨rfl, bBel⟩
  have hD2 : Hid (decide (xs = ys) = D) := hD
  have hlh : Hid (xs.length = ys.length) := hl
  rw [← hl]
  clear hD hl
  obtain ⟨n, hn⟩ : ∃ n, Hid (xs.length = n) := ⟨_, rfl⟩
  rw [hn.out] at hx ⊢
  go_enter Tryz.func11, Tryz.ntmps11
  go_wp2_with fail
  go_loopw [5] (fun i wr => ∃ k : Nat, k ≤ n ∧ i = .int .i64 (k : Int) ∧ Hid (xs.take k = ys.take k) ∧ Below w.heap.size w wr) (fun i _ => n - (intOf i).toNat)
  case atStart => exact ⟨0, by omega, rfl, rfl, bBel⟩
  case round =>
    obtain ⟨k, hk, rfl, hT, hb⟩ := hrel
    have hszR := hb.size
    by_cases hkn : k < n
    · have hki : (k : Int) < (n : Int) := by omega
      have q1 : k < xs.length := by have := hn.out; omega
      have q2 : k < ys.length := by have := hn.out; have := hlh.out; omega
      obtain ⟨b1, f1, rfl, -, c1'⟩ := kys_open h1 (by omega)
      obtain ⟨b2, f2, rfl, -, c2'⟩ := kys_open h2 (by omega)
      obtain ⟨o1, d0, d1, d2, d3⟩ := c1' k q1 wr hb
      obtain ⟨o2, e0, e1, e2, e3⟩ := c2' k q2 wr hb
      clear c1' c2'
      obtain ⟨x, hx'⟩ : ∃ x, xs[k] = x := ⟨_, rfl⟩
      have hx : Hid (xs[k] = x) := hx'
      obtain ⟨y, hy'⟩ : ∃ y, ys[k] = y := ⟨_, rfl⟩
      have hy : Hid (ys[k] = y) := hy'
      rw [hx'] at d0 d1 d2 d3
      rw [hy'] at e0 e1 e2 e3
      clear hx' hy'
      obtain ⟨x0, x1, x2, x3⟩ := x
      obtain ⟨y0, y1, y2, y3⟩ := y
      dsimp only at d0 d1 d2 d3 e0 e1 e2 e3
      by_cases hxy : x0 = y0 ∧ x1 = y1 ∧ x2 = y2 ∧ x3 = y3
      · have hT2 : Hid (xs.take (k + 1) = ys.take (k + 1)) := take_eqK hT.out q1 q2 (by rw [hx.out, hy.out]; rw [hxy.1, hxy.2.1, hxy.2.2.1, hxy.2.2.2])
        clear hx hy q1 q2
        obtain ⟨rfl, rfl, rfl, rfl⟩ := hxy
        have hne := neq_kyS x0 x1 x2 x3
        go_wp2_with fail
        refine wp_region_gw (by kernel_rfl) (by kernel_rfl) ?_
        repeat (go_big_quiet_step (fail))
        refine wpQuiet_nil ?_
        intro w1 hw1
        obtain ⟨q, rfl⟩ := hw1
        go_wp2_with fail
        refine ⟨⟨k + 1, by omega, by go_num, hT2, bBel⟩, by (try go_num); simp [intOf]; (try omega)⟩
      · obtain rfl : D = false := by
          rw [← hD2.out]; simp; intro e; apply hxy; have h9 := hx.out; have h8 := hy.out; subst e; rw [h9] at h8; cases h8; exact ⟨rfl, rfl, rfl, rfl⟩
        clear hx hy q1 q2
        have hne := neq_kyD x0 x1 x2 x3 y0 y1 y2 y3 hxy
        clear hxy
        go_wp2_with fail
        refine wp_region_gw (by kernel_rfl) (by kernel_rfl) ?_
        repeat (go_big_quiet_step (fail))
        refine wpQuiet_nil ?_
        intro w1 hw1
        obtain ⟨q, rfl⟩ := hw1
        go_wp2_with fail
        go_ret
        exact ⟨rfl, bBel⟩
    · obtain rfl : D = true := by
        have hlx : k = n := by omega
        rw [← hD2.out]
        have := hT.out
        rw [List.take_of_length_le (by have := hn.out; omega), List.take_of_length_le (by have := hn.out; have := hlh.out; omega)] at this
        simp [this]
      go_wp2_with fail
      go_ret
      exact ⟨rfl, bBel⟩

def okK (x : Ky) : Prop := x.a < x.b ∧ 0 ≤ x.p ∧ x.p ≤ 3 ∧ 0 ≤ x.q ∧ x.q ≤ 3
def lesK (x y : Ky) : Bool := les8 x.a x.p x.b x.q y.a y.p y.b y.q
/-- Valid keys: each is, and each precedes the next. -/
def vkP (l : List Ky) : Prop := (∀ x ∈ l, okK x) ∧ ∀ i (h : i + 1 < l.length), lesK l[i] l[i + 1] = true

set_option maxRecDepth 100000 in
set_option maxHeartbeats 32000000 in
theorem rvk_b (A : Option Addr) (cap : Nat) (l : List Ky) (hl : l.length ≤ 1000000) (w : World) (h : Kys w A l) (D : Bool) (hD : D = true ↔ vkP l) : Calls Tryz.prog 25 #[.slice A l.length cap] w fun e w' => e = .returned (.bool D) ∧ Below w.heap.size w w' := by
  have hD' : Hid (D = true ↔ vkP l) := hD
  clear hD
  go_enter Tryz.func25, Tryz.ntmps25
  go_wp2_with fail
  go_loopw [3] (fun i wr => ∃ k : Nat, k ≤ l.length ∧ i = .int .i64 (k : Int) ∧ Hid (∀ x ∈ l.take k, okK x) ∧ Hid (∀ i (h : i + 1 < l.length), i + 1 < k → lesK l[i] l[i + 1] = true) ∧ Below w.heap.size w wr) (fun i _ => l.length - (intOf i).toNat)
  case atStart => exact ⟨0, by omega, rfl, fun x hx => (by simp at hx), fun i h h2 => (by omega), bBel⟩
  case round =>
    obtain ⟨k, hk, rfl, hok, hadj, hb⟩ := hrel
    have hszR := hb.size
    by_cases hlt : k < l.length
    · obtain ⟨bl, off, rfl, hbl, hc0⟩ := kys_open h (by omega)
      have hc := show Hid _ from hc0
      obtain ⟨o, d0, d1, d2, d3⟩ := hc0 k hlt wr hb
      clear hc0
      have hst : Hid (okK l[k] → ∀ x ∈ l.take (k + 1), okK x) := fun h2 x hx => by
        rw [← List.take_append_getElem hlt] at hx
        rcases List.mem_append.1 hx with hx | hx
        · exact hok.out x hx
        · simp at hx; subst hx; exact h2
      have hbad : Hid (¬ okK l[k] → D = false) := fun h2 => by
        cases hDD : D
        · rfl
        · exact (h2 ((hD'.out.1 hDD).1 _ (List.getElem_mem hlt))).elim
      obtain ⟨x, hx0⟩ : ∃ x, l[k] = x := ⟨_, rfl⟩
      have hxk : Hid (l[k] = x) := hx0
      rw [hx0] at d0 d1 d2 d3 hst hbad
      clear hx0
      obtain ⟨a, p, b, q⟩ := x
      dsimp only at d0 d1 d2 d3
      go_upto_region 5 with fail
      refine wp_named ?_
      intro V hV
      have kJ : blk V wr.heap.size #[.int .i64 a, .int .i64 p, .int .i64 b, .int .i64 q] 60 := by rw [hV]; exact (by apply blk_of; (repeat (first | with_reducible apply blk_set | with_reducible apply blk_gw | with_reducible apply blk_drew | with_reducible exact blk_new _ _ _ | with_reducible apply blk_alloc)); (first | rfl | simp))
      have hbwV : Below w.heap.size w V := by rw [hV]; exact bBel
      clear hV d0 d1 d2 d3 o
      have hszV := hbwV.size
      have okJ := blk_older kJ
      have ckJ_0 : _ = some _ := blk_cell kJ 0
      have ckJ_1 : _ = some _ := blk_cell kJ 1
      have ckJ_2 : _ = some _ := blk_cell kJ 2
      have ckJ_3 : _ = some _ := blk_cell kJ 3
      have fkJ_0 := blk_free kJ 0
      have fkJ_1 := blk_free kJ 1
      have fkJ_2 := blk_free kJ 2
      have fkJ_3 := blk_free kJ 3
      by_cases b1 : b ≤ a
      · obtain rfl := hbad.out (fun h => by obtain ⟨h1, h2, h3, h4, h5⟩ := h; dsimp only at h1 h2 h3 h4 h5; omega)
        have g1 : decide (b ≤ a) = true := decide_eq_true b1
        clear hbad hok hst hadj b1
        refine wp_region_gw (by kernel_rfl) (by kernel_rfl) ?_
        repeat (go_big_quiet_step (fail))
        refine wpQuiet_nil ?_
        intro w1 hw1
        obtain ⟨q, rfl⟩ := hw1
        go_wp2_with fail
        go_ret
        exact ⟨rfl, bBel⟩
      have g1 : decide (b ≤ a) = false := decide_eq_false b1
      by_cases b2 : p < 0
      · obtain rfl := hbad.out (fun h => by obtain ⟨h1, h2, h3, h4, h5⟩ := h; dsimp only at h1 h2 h3 h4 h5; omega)
        have g2 : decide (p < 0) = true := decide_eq_true b2
        clear hbad hok hst hadj b2
        refine wp_region_gw (by kernel_rfl) (by kernel_rfl) ?_
        repeat (go_big_quiet_step (fail))
        refine wpQuiet_nil ?_
        intro w1 hw1
        obtain ⟨q, rfl⟩ := hw1
        go_wp2_with fail
        go_ret
        exact ⟨rfl, bBel⟩
      have g2 : decide (p < 0) = false := decide_eq_false b2
      by_cases b3 : 3 < p
      · obtain rfl := hbad.out (fun h => by obtain ⟨h1, h2, h3, h4, h5⟩ := h; dsimp only at h1 h2 h3 h4 h5; omega)
        have g3 : decide (3 < p) = true := decide_eq_true b3
        clear hbad hok hst hadj b3
        refine wp_region_gw (by kernel_rfl) (by kernel_rfl) ?_
        repeat (go_big_quiet_step (fail))
        refine wpQuiet_nil ?_
        intro w1 hw1
        obtain ⟨q, rfl⟩ := hw1
        go_wp2_with fail
        go_ret
        exact ⟨rfl, bBel⟩
      have g3 : decide (3 < p) = false := decide_eq_false b3
      by_cases b4 : q < 0
      · obtain rfl := hbad.out (fun h => by obtain ⟨h1, h2, h3, h4, h5⟩ := h; dsimp only at h1 h2 h3 h4 h5; omega)
        have g4 : decide (q < 0) = true := decide_eq_true b4
        clear hbad hok hst hadj b4
        refine wp_region_gw (by kernel_rfl) (by kernel_rfl) ?_
        repeat (go_big_quiet_step (fail))
        refine wpQuiet_nil ?_
        intro w1 hw1
        obtain ⟨q, rfl⟩ := hw1
        go_wp2_with fail
        go_ret
        exact ⟨rfl, bBel⟩
      have g4 : decide (q < 0) = false := decide_eq_false b4
      by_cases b5 : 3 < q
      · obtain rfl := hbad.out (fun h => by obtain ⟨h1, h2, h3, h4, h5⟩ := h; dsimp only at h1 h2 h3 h4 h5; omega)
        have g5 : decide (3 < q) = true := decide_eq_true b5
        clear hbad hok hst hadj b5
        refine wp_region_gw (by kernel_rfl) (by kernel_rfl) ?_
        repeat (go_big_quiet_step (fail))
        refine wpQuiet_nil ?_
        intro w1 hw1
        obtain ⟨q, rfl⟩ := hw1
        go_wp2_with fail
        go_ret
        exact ⟨rfl, bBel⟩
      have g5 : decide (3 < q) = false := decide_eq_false b5
      have hokx : Hid (∀ x ∈ l.take (k + 1), okK x) := hst.out (by refine ⟨?_, ?_, ?_, ?_, ?_⟩ <;> dsimp only <;> omega)
      clear b1 b2 b3 b4 b5 hst hok hbad
      by_cases k0 : 0 < k
      · obtain ⟨s, hs1, hs2⟩ : ∃ s, s + 1 ≤ k ∧ k ≤ s + 1 := ⟨k - 1, by omega, by omega⟩
        have hgt : decide (0 < k) = true := decide_eq_true k0
        have hgt2 : decide ((0 : Int) < (k : Int)) = true := by simpa using k0
        have hgt3 : (k : Int) > 0 := by omega
        have hws : IntKind.i64.wrap ((k : Int) - 1) = (s : Int) := by rw [IntKind.wrap_i64]; omega
        have hws2 : (k : Int) - 1 = (s : Int) := by omega
        have hsl : (s : Int) < (l.length : Int) := by omega
        obtain ⟨og, e0, e1, e2, e3⟩ := hc.out s (by omega) V hbwV
        have hadj2 : Hid (lesK (l[s]'(by omega)) ⟨a, p, b, q⟩ = true → ∀ i (h : i + 1 < l.length), i + 1 < k + 1 → lesK l[i] l[i + 1] = true) := fun h2 i hi hik => by
          rcases Nat.lt_or_eq_of_le (Nat.le_of_lt_succ hik) with h3 | h3
          · exact hadj.out i hi h3
          · have e1 : i = s := by omega
            subst e1
            have : l[i + 1] = ⟨a, p, b, q⟩ := by rw [← hxk.out]; congr 1
            rw [this]; exact h2
        have hbad2 : Hid (lesK (l[s]'(by omega)) ⟨a, p, b, q⟩ = false → D = false) := fun h2 => by
          cases hDD : D
          · rfl
          · have h9 := (hD'.out.1 hDD).2 s (by omega)
            have : l[s + 1]'(by omega) = ⟨a, p, b, q⟩ := by rw [← hxk.out]; congr 1; omega
            rw [this, h2] at h9; cases h9
        clear hadj
        generalize l[s]'(by omega) = u at *
        obtain ⟨u0, u1, u2, u3⟩ := u
        dsimp only at e0 e1 e2 e3
        cases hv : les8 u0 u1 u2 u3 a p b q with
        | true =>
          have hn4 : Hid (∀ i (h : i + 1 < l.length), i + 1 < k + 1 → lesK l[i] l[i + 1] = true) := hadj2.out hv
          have cL := fun w' => boolIs (rles22_b u0 u1 u2 u3 a p b q w') hv
          clear hadj2 hbad2 hv
          refine wp_region_gw (by kernel_rfl) (by kernel_rfl) ?_
          repeat (go_big_quiet_step ((first | (go_at_call 23; with_reducible_and_instances exact gw_call (cL _)))))
          refine wpQuiet_nil ?_
          intro w1 hw1
          obtain ⟨q, rfl⟩ := hw1
          go_wp2_with fail
          exact ⟨⟨k + 1, by omega, by go_num, hokx, hn4, bBel⟩, by (try go_num); simp [intOf]; (try omega)⟩
        | false =>
          obtain rfl := hbad2.out hv
          have cL := fun w' => boolIs (rles22_b u0 u1 u2 u3 a p b q w') hv
          clear hadj2 hbad2 hv
          refine wp_region_gw (by kernel_rfl) (by kernel_rfl) ?_
          repeat (go_big_quiet_step ((first | (go_at_call 23; with_reducible_and_instances exact gw_call (cL _)))))
          refine wpQuiet_nil ?_
          intro w1 hw1
          obtain ⟨q, rfl⟩ := hw1
          go_wp2_with fail
          go_ret
          exact ⟨rfl, bBel⟩
      · have hgt : decide (0 < k) = false := decide_eq_false k0
        have hgt2 : decide ((0 : Int) < (k : Int)) = false := by simpa using k0
        have hn4 : Hid (∀ i (h : i + 1 < l.length), i + 1 < k + 1 → lesK l[i] l[i + 1] = true) := fun i hi hik => by omega
        clear hadj
        refine wp_region_gw (by kernel_rfl) (by kernel_rfl) ?_
        repeat (go_big_quiet_step (fail))
        refine wpQuiet_nil ?_
        intro w1 hw1
        obtain ⟨q, rfl⟩ := hw1
        go_wp2_with fail
        exact ⟨⟨k + 1, by omega, by go_num, hokx, hn4, bBel⟩, by (try go_num); simp [intOf]; (try omega)⟩
    · obtain rfl : k = l.length := by omega
      obtain rfl : D = true := hD'.out.2 ⟨by have := hok.out; rw [List.take_length] at this; exact this, fun i hi => hadj.out i hi (by omega)⟩
      go_wp2_with fail
      go_ret
      exact ⟨rfl, bBel⟩

end Go.Proofs.YtaahgblkmajceaaGreat
