/- Chapter 22: the program's ValidKeys, and the box of a fixture. -/
import Derived.Test.YtaahgblkmajceaaGreatBqB
set_option linter.unusedVariables false
set_option linter.unusedSimpArgs false
namespace Go.Proofs.YtaahgblkmajceaaGreat
open Go.RowKit Fx

theorem eql_kyS (a p b q : Int) (W : World) : (binOp .eql 60 (.agg #[.int .i64 a, .int .i64 p, .int .i64 b, .int .i64 q]) (.agg #[.int .i64 a, .int .i64 p, .int .i64 b, .int .i64 q])).run Tryz.prog W = .ok (.bool true) W := by simp [go_sem]

theorem eql_kyD (a p b q a2 p2 b2 q2 : Int) (h : ¬ (a = a2 ∧ p = p2 ∧ b = b2 ∧ q = q2)) (W : World) : (binOp .eql 60 (.agg #[.int .i64 a, .int .i64 p, .int .i64 b, .int .i64 q]) (.agg #[.int .i64 a2, .int .i64 p2, .int .i64 b2, .int .i64 q2])).run Tryz.prog W = .ok (.bool false) W := by
  by_cases h1 : a = a2
  · by_cases h2 : p = p2
    · by_cases h3 : b = b2
      · have h4 : ¬ q = q2 := fun e => h ⟨h1, h2, h3, e⟩
        simp [go_sem, h1, h2, h3, h4]
      · simp [go_sem, h1, h2, h3]
    · simp [go_sem, h1, h2]
  · simp [go_sem, h1]

theorem les8_irr (a p b q : Int) : les8 a p b q a p b q = false := by unfold les8; simp
theorem les8_asy {a p b q a2 p2 b2 q2 : Int} (h : les8 a p b q a2 p2 b2 q2 = true) : les8 a2 p2 b2 q2 a p b q = false := by
  unfold les8 at *; simp only [decide_eq_true_eq, decide_eq_false_iff_not] at *; omega
theorem les8_tot {a p b q a2 p2 b2 q2 : Int} (h : les8 a p b q a2 p2 b2 q2 = false) (hne : ¬ (a = a2 ∧ p = p2 ∧ b = b2 ∧ q = q2)) : les8 a2 p2 b2 q2 a p b q = true := by
  unfold les8 at *; simp only [decide_eq_true_eq, decide_eq_false_iff_not] at *; omega

set_option maxRecDepth 100000 in
set_option maxHeartbeats 32000000 in
theorem vk_b (A : Option Addr) (cap : Nat) (l : List Ky) (hl : l.length ≤ 1000000) (w : World) (h : Kys w A l) (D : Bool) (hD : D = true ↔ vkP l) : Calls Tryz.prog 24 #[.slice A l.length cap] w fun e w' => e = .returned (.bool D) ∧ Below w.heap.size w w' := by
  have hD' : Hid (D = true ↔ vkP l) := hD
  clear hD
  go_enter Tryz.func24, Tryz.ntmps24
  go_wp2_with fail
  go_loopw [7] (fun i wr => ∃ k : Nat, k ≤ l.length ∧ i = .int .i64 (k : Int) ∧ Hid (∀ x ∈ l.take k, okK x) ∧ Hid (∀ i (h : i + 1 < l.length), i + 1 < k → lesK l[i] l[i + 1] = true) ∧ Below w.heap.size w wr) (fun i _ => l.length - (intOf i).toNat)
  case atStart => exact ⟨0, by omega, rfl, fun x hx => (by simp at hx), fun i h h2 => (by omega), bBel⟩
  case round =>
    obtain ⟨k, hk, rfl, hok, hadj, hb⟩ := hrel
    have hszR := hb.size
    by_cases hlt : k < l.length
    · obtain ⟨bl, off, rfl, hbl, hc0⟩ := kys_open h (by omega)
      have hc := show Hid _ from hc0
      obtain ⟨o, d0, d1, d2, d3⟩ := hc0 k hlt wr hb
      clear hc0
      have hst : Hid (okK l[k] → ∀ x ∈ l.take (k + 1), okK x) := fun h2 x hx => by
        rw [← List.take_append_getElem hlt] at hx
        rcases List.mem_append.1 hx with hx | hx
        · exact hok.out x hx
        · simp at hx; subst hx; exact h2
      have hbad : Hid (¬ okK l[k] → D = false) := fun h2 => by
        cases hDD : D
        · rfl
        · exact (h2 ((hD'.out.1 hDD).1 _ (List.getElem_mem hlt))).elim
      obtain ⟨x, hx0⟩ : ∃ x, l[k] = x := ⟨_, rfl⟩
      have hxk : Hid (l[k] = x) := hx0
      rw [hx0] at d0 d1 d2 d3 hst hbad
      clear hx0
      obtain ⟨a, p, b, q⟩ := x
      dsimp only at d0 d1 d2 d3
      go_upto_region 4 with fail
      refine wp_named ?_
      intro V hV
      have kJ : blk V wr.heap.size #[.int .i64 a, .int .i64 p, .int .i64 b, .int .i64 q] 60 := by rw [hV]; exact (by apply blk_of; (repeat (first | with_reducible apply blk_set | with_reducible apply blk_gw | with_reducible apply blk_drew | with_reducible exact blk_new _ _ _ | with_reducible apply blk_alloc)); (first | rfl | simp))
      have hbwV : Below w.heap.size w V := by rw [hV]; exact bBel
      clear hV d0 d1 d2 d3 o
      have hszV := hbwV.size
      have okJ := blk_older kJ
      have ckJ_0 : _ = some _ := blk_cell kJ 0
      have ckJ_1 : _ = some _ := blk_cell kJ 1
      have ckJ_2 : _ = some _ := blk_cell kJ 2
      have ckJ_3 : _ = some _ := blk_cell kJ 3
      have fkJ_0 := blk_free kJ 0
      have fkJ_1 := blk_free kJ 1
      have fkJ_2 := blk_free kJ 2
      have fkJ_3 := blk_free kJ 3
      by_cases hoks : okK ⟨a, p, b, q⟩
      rotate_left
      · obtain rfl := hbad.out hoks
        have cV := fun w' => isval_b a p b q false (by simp [hoks]) w'
        clear hbad hok hst hadj hoks
        go_wp2_with (first | (go_at_call 43; with_reducible_and_instances refine Calls.mono (gw_at (cV _)) ?_; rintro e w1 ⟨rfl, q, rfl⟩))
        go_ret
        exact ⟨rfl, bBel⟩
      have cV := fun w' => isval_b a p b q true (by simp [hoks]) w'
      have hokx : Hid (∀ x ∈ l.take (k + 1), okK x) := hst.out hoks
      clear hst hok hbad hoks
      go_upto_region 6 with (go_at_call 43; refine Calls.mono (gw_at (cV _)) ?_; rintro e w1 ⟨rfl, q9, rfl⟩)
      refine wp_named ?_
      intro U hU
      have kU : blk U wr.heap.size #[.int .i64 a, .int .i64 p, .int .i64 b, .int .i64 q] 60 := by rw [hU]; exact blk_gw kJ
      have hbwU : Below w.heap.size w U := by rw [hU]; exact bBel
      clear hU cV
      have hszU := hbwU.size
      have okU := blk_older kU
      have ckU_0 : _ = some _ := blk_cell kU 0
      have ckU_1 : _ = some _ := blk_cell kU 1
      have ckU_2 : _ = some _ := blk_cell kU 2
      have ckU_3 : _ = some _ := blk_cell kU 3
      have fkU_0 := blk_free kU 0
      have fkU_1 := blk_free kU 1
      have fkU_2 := blk_free kU 2
      have fkU_3 := blk_free kU 3
      by_cases k0 : 0 < k
      · obtain ⟨s, hs1, hs2⟩ : ∃ s, s + 1 ≤ k ∧ k ≤ s + 1 := ⟨k - 1, by omega, by omega⟩
        have hgt : decide (0 < k) = true := decide_eq_true k0
        have hgt2 : decide ((0 : Int) < (k : Int)) = true := by simpa using k0
        have hgt3 : (k : Int) > 0 := by omega
        have hws : IntKind.i64.wrap ((k : Int) - 1) = (s : Int) := by rw [IntKind.wrap_i64]; omega
        have hws2 : (k : Int) - 1 = (s : Int) := by omega
        have hsl : (s : Int) < (l.length : Int) := by omega
        obtain ⟨og, e0, e1, e2, e3⟩ := hc.out s (by omega) U hbwU
        have hadj2 : Hid (lesK (l[s]'(by omega)) ⟨a, p, b, q⟩ = true → ∀ i (h : i + 1 < l.length), i + 1 < k + 1 → lesK l[i] l[i + 1] = true) := fun h2 i hi hik => by
          rcases Nat.lt_or_eq_of_le (Nat.le_of_lt_succ hik) with h3 | h3
          · exact hadj.out i hi h3
          · have e1 : i = s := by omega
            subst e1
            have : l[i + 1] = ⟨a, p, b, q⟩ := by rw [← hxk.out]; congr 1
            rw [this]; exact h2
        have hbad2 : Hid (lesK (l[s]'(by omega)) ⟨a, p, b, q⟩ = false → D = false) := fun h2 => by
          cases hDD : D
          · rfl
          · have h9 := (hD'.out.1 hDD).2 s (by omega)
            have : l[s + 1]'(by omega) = ⟨a, p, b, q⟩ := by rw [← hxk.out]; congr 1; omega
            rw [this, h2] at h9; cases h9
        clear hadj
        generalize l[s]'(by omega) = u at *
        obtain ⟨u0, u1, u2, u3⟩ := u
        dsimp only at e0 e1 e2 e3
        by_cases hxy : a = u0 ∧ p = u1 ∧ b = u2 ∧ q = u3
        · have hf : lesK ⟨u0, u1, u2, u3⟩ ⟨a, p, b, q⟩ = false := by obtain ⟨rfl, rfl, rfl, rfl⟩ := hxy; exact les8_irr _ _ _ _
          obtain rfl := hbad2.out hf
          have he := eql_kyS a p b q
          clear hadj2 hbad2 hf
          obtain ⟨rfl, rfl, rfl, rfl⟩ := hxy
          refine wp_region_gw (by kernel_rfl) (by kernel_rfl) ?_
          repeat (go_big_quiet_step (fail))
          refine wpQuiet_nil ?_
          intro w1 hw1
          obtain ⟨q, rfl⟩ := hw1
          go_wp2_with fail
          go_ret
          exact ⟨rfl, bBel⟩
        have he := eql_kyD a p b q u0 u1 u2 u3 hxy
        cases hv : les8 a p b q u0 u1 u2 u3 with
        | true =>
          obtain rfl := hbad2.out (les8_asy hv)
          have cL := fun w' => boolIs (less_b a p b q u0 u1 u2 u3 w') hv
          clear hadj2 hbad2 hv hxy
          refine wp_region_gw (by kernel_rfl) (by kernel_rfl) ?_
          repeat (go_big_quiet_step ((first | (go_at_call 22; with_reducible_and_instances exact gw_call (cL _)))))
          refine wpQuiet_nil ?_
          intro w1 hw1
          obtain ⟨q, rfl⟩ := hw1
          go_wp2_with fail
          go_ret
          exact ⟨rfl, bBel⟩
        | false =>
          have hn4 : Hid (∀ i (h : i + 1 < l.length), i + 1 < k + 1 → lesK l[i] l[i + 1] = true) := hadj2.out (les8_tot hv hxy)
          have cL := fun w' => boolIs (less_b a p b q u0 u1 u2 u3 w') hv
          clear hadj2 hbad2 hv hxy
          refine wp_region_gw (by kernel_rfl) (by kernel_rfl) ?_
          repeat (go_big_quiet_step ((first | (go_at_call 22; with_reducible_and_instances exact gw_call (cL _)))))
          refine wpQuiet_nil ?_
          intro w1 hw1
          obtain ⟨q, rfl⟩ := hw1
          go_wp2_with fail
          exact ⟨⟨k + 1, by omega, by go_num, hokx, hn4, bBel⟩, by (try go_num); simp [intOf]; (try omega)⟩
      · have hgt : decide (0 < k) = false := decide_eq_false k0
        have hgt2 : decide ((0 : Int) < (k : Int)) = false := by simpa using k0
        have hn4 : Hid (∀ i (h : i + 1 < l.length), i + 1 < k + 1 → lesK l[i] l[i + 1] = true) := fun i hi hik => by omega
        clear hadj
        refine wp_region_gw (by kernel_rfl) (by kernel_rfl) ?_
        repeat (go_big_quiet_step (fail))
        refine wpQuiet_nil ?_
        intro w1 hw1
        obtain ⟨q, rfl⟩ := hw1
        go_wp2_with fail
        exact ⟨⟨k + 1, by omega, by go_num, hokx, hn4, bBel⟩, by (try go_num); simp [intOf]; (try omega)⟩
    · obtain rfl : k = l.length := by omega
      obtain rfl : D = true := hD'.out.2 ⟨by have := hok.out; rw [List.take_length] at this; exact this, fun i hi => hadj.out i hi (by omega)⟩
      go_wp2_with fail
      go_ret
      exact ⟨rfl, bBel⟩

set_option maxRecDepth 100000 in
set_option maxHeartbeats 16000000 in
theorem pbox_b (g : Fxr) (px py pa : Int) (hg : g.ps.length ≤ 1000) (hk : g.ps.length ≤ g.cap) (w : World) (h : Pts w g.A g.ps) (Z : Bx) (hZ : Bx.exp (bndS g.K g.R g.ps px py pa) 1024 = Z) : Calls Tryz.prog 35 #[.agg (fxc g).toArray, .agg #[.int .i64 px, .int .i64 py, .int .i64 pa]] w fun e w' => e = .returned (.agg #[.int .i64 Z.x0, .int .i64 Z.y0, .int .i64 Z.x1, .int .i64 Z.y1]) ∧ Below w.heap.size w w' := by
  obtain ⟨K, R, A2, cap2, ps, fD, fF, fE, sen, c1, m1, g1⟩ := g
  dsimp only at hg hk h hZ
  show Calls _ _ #[.agg #[.int .i64 K, .int .i64 R, .slice A2 ps.length cap2, .int .i64 fD, .int .i64 fF, .int .i64 fE, .bool sen, .int .i64 c1, .int .i64 m1, .int .i64 g1], _] _ _
  have cB := fun w' h => ybnd_b K R A2 cap2 ps px py pa (by omega) w' h hk
  generalize bndS K R ps px py pa = X at *
  obtain ⟨y0, y1, y2, y3⟩ := X
  dsimp only at cB
  have cE := fun w' => xexp_b y0 y1 y2 y3 1024 w'
  rw [hZ] at cE
  clear hZ
  obtain ⟨z0, z1, z2, z3⟩ := Z
  dsimp only at cE ⊢
  go_enter Tryz.func35, Tryz.ntmps35
  go_upto_region 1 with fail
  refine wp_named ?_
  intro V hV
  have kA : blk V w.heap.size #[.int .i64 K, .int .i64 R, .slice A2 ps.length cap2, .int .i64 fD, .int .i64 fF, .int .i64 fE, .bool sen, .int .i64 c1, .int .i64 m1, .int .i64 g1] 57 := by rw [hV]; exact bBkn
  have kT : blk V (w.heap.size + 1) #[.int .i64 px, .int .i64 py, .int .i64 pa] 34 := by rw [hV]; exact bBkn
  have kR : blk V (w.heap.size + 1 + 1) #[.int .i64 0, .int .i64 0, .int .i64 0, .int .i64 0] 42 := by rw [hV]; exact bBkn
  have hbV : Below w.heap.size w V := by rw [hV]; exact bBel
  clear hV
  have hszV := hbV.size
  have hptsV := Pts.to h hbV
  have okA := blk_older kA
  have ckA_0 : _ = some _ := blk_cell kA 0
  have ckA_1 : _ = some _ := blk_cell kA 1
  have ckA_2 : _ = some _ := blk_cell kA 2
  have ckA_3 : _ = some _ := blk_cell kA 3
  have ckA_4 : _ = some _ := blk_cell kA 4
  have ckA_5 : _ = some _ := blk_cell kA 5
  have ckA_6 : _ = some _ := blk_cell kA 6
  have ckA_7 : _ = some _ := blk_cell kA 7
  have ckA_8 : _ = some _ := blk_cell kA 8
  have ckA_9 : _ = some _ := blk_cell kA 9
  have fkA_0 := blk_free kA 0
  have fkA_1 := blk_free kA 1
  have fkA_2 := blk_free kA 2
  have fkA_3 := blk_free kA 3
  have fkA_4 := blk_free kA 4
  have fkA_5 := blk_free kA 5
  have fkA_6 := blk_free kA 6
  have fkA_7 := blk_free kA 7
  have fkA_8 := blk_free kA 8
  have fkA_9 := blk_free kA 9
  have okT := blk_older kT
  have ckT_0 : _ = some _ := blk_cell kT 0
  have ckT_1 : _ = some _ := blk_cell kT 1
  have ckT_2 : _ = some _ := blk_cell kT 2
  have fkT_0 := blk_free kT 0
  have fkT_1 := blk_free kT 1
  have fkT_2 := blk_free kT 2
  have okR := blk_older kR
  have ckR_0 : _ = some _ := blk_cell kR 0
  have ckR_1 : _ = some _ := blk_cell kR 1
  have ckR_2 : _ = some _ := blk_cell kR 2
  have ckR_3 : _ = some _ := blk_cell kR 3
  have fkR_0 := blk_free kR 0
  have fkR_1 := blk_free kR 1
  have fkR_2 := blk_free kR 2
  have fkR_3 := blk_free kR 3
  go_wp2_with (first | (go_at_call 50; with_reducible_and_instances refine Calls.mono (gw_at (cB _ (Pts.to hptsV bBel))) ?_; rintro e w1 ⟨rfl, q, rfl⟩) | (go_at_call 49; with_reducible_and_instances refine Calls.mono (gw_at (cE _)) ?_; rintro e w1 ⟨rfl, q, rfl⟩))
  refine post_named ?_
  intro Z hZ
  have kZ : blk Z (w.heap.size + 1 + 1) #[.int .i64 z0, .int .i64 z1, .int .i64 z2, .int .i64 z3] 42 := by rw [hZ]; exact (by apply blk_of; (repeat (first | with_reducible apply blk_set | with_reducible apply blk_gw | with_reducible apply blk_drew | with_reducible apply blk_alloc | with_reducible exact kR)); (first | rfl | simp))
  have hbZ : Below w.heap.size w Z := by rw [hZ]; exact bBel
  clear hZ
  have okZ := blk_older kZ
  have ckZ_0 : _ = some _ := blk_cell kZ 0
  have ckZ_1 : _ = some _ := blk_cell kZ 1
  have ckZ_2 : _ = some _ := blk_cell kZ 2
  have ckZ_3 : _ = some _ := blk_cell kZ 3
  have fkZ_0 := blk_free kZ 0
  have fkZ_1 := blk_free kZ 1
  have fkZ_2 := blk_free kZ 2
  have fkZ_3 := blk_free kZ 3
  exact bodyPost_ret (v := .agg #[.int .i64 z0, .int .i64 z1, .int .i64 z2, .int .i64 z3]) (by simp [results, Tryz.results35, go_sem, ckZ_0, ckZ_1, ckZ_2, ckZ_3]) rfl ⟨rfl, hbZ⟩

end Go.Proofs.YtaahgblkmajceaaGreat
