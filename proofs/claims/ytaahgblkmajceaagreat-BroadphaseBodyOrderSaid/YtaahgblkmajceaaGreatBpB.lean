/- Chapter 22: the reference, without its search: keys, filtering, joints, boxes. -/
import Derived.Test.YtaahgblkmajceaaGreatBh1
set_option linter.unusedVariables false
set_option linter.unusedSimpArgs false
namespace Go.Proofs.YtaahgblkmajceaaGreat
open Go.RowKit Fx

def les8 (a p b q a2 p2 b2 q2 : Int) : Bool := decide (a < a2 ∨ a = a2 ∧ (p < p2 ∨ p = p2 ∧ (b < b2 ∨ b = b2 ∧ q < q2)))

set_option maxRecDepth 100000 in
set_option maxHeartbeats 8000000 in
theorem rles22_b (a p b q a2 p2 b2 q2 : Int) (w : World) : Calls Tryz.prog 23 #[.agg #[.int .i64 a, .int .i64 p, .int .i64 b, .int .i64 q], .agg #[.int .i64 a2, .int .i64 p2, .int .i64 b2, .int .i64 q2]] w fun e w' => e = .returned (.bool (les8 a p b q a2 p2 b2 q2)) ∧ Below w.heap.size w w' := by
  obtain ⟨D, hD⟩ : ∃ D, Hid (les8 a p b q a2 p2 b2 q2 = D) := ⟨_, rfl⟩
  rw [hD.out]
  go_enter Tryz.func23, Tryz.ntmps23
  go_upto_region 1 with fail
  refine wp_named ?_
  intro V hV
  have kA : blk V w.heap.size #[.int .i64 a, .int .i64 p, .int .i64 b, .int .i64 q] 60 := by rw [hV]; exact bBkn
  have kB : blk V (w.heap.size + 1) #[.int .i64 a2, .int .i64 p2, .int .i64 b2, .int .i64 q2] 60 := by rw [hV]; exact bBkn
  have hbV : Below w.heap.size w V := by rw [hV]; exact bBel
  clear hV
  have okA := blk_older kA
  have ckA_0 : _ = some _ := blk_cell kA 0
  have ckA_1 : _ = some _ := blk_cell kA 1
  have ckA_2 : _ = some _ := blk_cell kA 2
  have ckA_3 : _ = some _ := blk_cell kA 3
  have fkA_0 := blk_free kA 0
  have fkA_1 := blk_free kA 1
  have fkA_2 := blk_free kA 2
  have fkA_3 := blk_free kA 3
  have okB := blk_older kB
  have ckB_0 : _ = some _ := blk_cell kB 0
  have ckB_1 : _ = some _ := blk_cell kB 1
  have ckB_2 : _ = some _ := blk_cell kB 2
  have ckB_3 : _ = some _ := blk_cell kB 3
  have fkB_0 := blk_free kB 0
  have fkB_1 := blk_free kB 1
  have fkB_2 := blk_free kB 2
  have fkB_3 := blk_free kB 3
  by_cases c1 : a = a2
  · have d1 : (a != a2) = false := by rw [bne_eq_false_iff_eq]; exact c1
    by_cases c2 : p = p2
    · have d2 : (p != p2) = false := by rw [bne_eq_false_iff_eq]; exact c2
      by_cases c3 : b = b2
      · have d3 : (b != b2) = false := by rw [bne_eq_false_iff_eq]; exact c3
        have hE : Hid (D = decide (q < q2)) := by show _ = _; rw [← hD.out]; unfold les8; congr 1; simp only [eq_iff_iff]; omega
        clear c1 c2 c3
        obtain rfl := hE.out
        go_wp2_with fail
        go_ret
        exact ⟨rfl, bBel⟩
      · have d3 : (b != b2) = true := by rw [bne_iff_ne]; exact c3
        have hE : Hid (D = decide (b < b2)) := by show _ = _; rw [← hD.out]; unfold les8; congr 1; simp only [eq_iff_iff]; omega
        clear c1 c2 c3
        obtain rfl := hE.out
        go_wp2_with fail
        go_ret
        exact ⟨rfl, bBel⟩
    · have d2 : (p != p2) = true := by rw [bne_iff_ne]; exact c2
      have hE : Hid (D = decide (p < p2)) := by show _ = _; rw [← hD.out]; unfold les8; congr 1; simp only [eq_iff_iff]; omega
      clear c1 c2
      obtain rfl := hE.out
      go_wp2_with fail
      go_ret
      exact ⟨rfl, bBel⟩
  · have d1 : (a != a2) = true := by rw [bne_iff_ne]; exact c1
    have hE : Hid (D = decide (a < a2)) := by show _ = _; rw [← hD.out]; unfold les8; congr 1; simp only [eq_iff_iff]; omega
    clear c1
    obtain rfl := hE.out
    go_wp2_with fail
    go_ret
    exact ⟨rfl, bBel⟩

/-- Whether two fixtures should collide. -/
def shc (g1 c1 m1 g2 c2 m2 : Int) : Bool := if g1 = g2 ∧ g1 ≠ 0 then decide (0 < g1) else (bits .and .i64 c1 m2 != 0) && (bits .and .i64 c2 m1 != 0)

set_option maxRecDepth 100000 in
set_option maxHeartbeats 8000000 in
theorem rshc_b (f g : Fxr) (w : World) : Calls Tryz.prog 20 #[.agg (fxc f).toArray, .agg (fxc g).toArray] w fun e w' => e = .returned (.bool (shc f.grp f.cat f.msk g.grp g.cat g.msk)) ∧ Below w.heap.size w w' := by
  obtain ⟨K, R, A, cap, ps, fD, fF, fE, sen, c1, m1, g1⟩ := f
  obtain ⟨K2, R2, A2, cap2, qs, fD2, fF2, fE2, sen2, c2, m2, g2⟩ := g
  dsimp only
  obtain ⟨D, hD⟩ : ∃ D, Hid (shc g1 c1 m1 g2 c2 m2 = D) := ⟨_, rfl⟩
  rw [hD.out]
  show Calls _ _ #[.agg #[.int .i64 K, .int .i64 R, .slice A ps.length cap, .int .i64 fD, .int .i64 fF, .int .i64 fE, .bool sen, .int .i64 c1, .int .i64 m1, .int .i64 g1], .agg #[.int .i64 K2, .int .i64 R2, .slice A2 qs.length cap2, .int .i64 fD2, .int .i64 fF2, .int .i64 fE2, .bool sen2, .int .i64 c2, .int .i64 m2, .int .i64 g2]] _ _
  go_enter Tryz.func20, Tryz.ntmps20
  go_upto_region 1 with fail
  refine wp_named ?_
  intro V hV
  have kA : blk V w.heap.size #[.int .i64 K, .int .i64 R, .slice A ps.length cap, .int .i64 fD, .int .i64 fF, .int .i64 fE, .bool sen, .int .i64 c1, .int .i64 m1, .int .i64 g1] 57 := by rw [hV]; exact bBkn
  have kB : blk V (w.heap.size + 1) #[.int .i64 K2, .int .i64 R2, .slice A2 qs.length cap2, .int .i64 fD2, .int .i64 fF2, .int .i64 fE2, .bool sen2, .int .i64 c2, .int .i64 m2, .int .i64 g2] 57 := by rw [hV]; exact bBkn
  have hbV : Below w.heap.size w V := by rw [hV]; exact bBel
  clear hV
  have okA := blk_older kA
  have ckA_0 : _ = some _ := blk_cell kA 0
  have ckA_1 : _ = some _ := blk_cell kA 1
  have ckA_2 : _ = some _ := blk_cell kA 2
  have ckA_3 : _ = some _ := blk_cell kA 3
  have ckA_4 : _ = some _ := blk_cell kA 4
  have ckA_5 : _ = some _ := blk_cell kA 5
  have ckA_6 : _ = some _ := blk_cell kA 6
  have ckA_7 : _ = some _ := blk_cell kA 7
  have ckA_8 : _ = some _ := blk_cell kA 8
  have ckA_9 : _ = some _ := blk_cell kA 9
  have fkA_0 := blk_free kA 0
  have fkA_1 := blk_free kA 1
  have fkA_2 := blk_free kA 2
  have fkA_3 := blk_free kA 3
  have fkA_4 := blk_free kA 4
  have fkA_5 := blk_free kA 5
  have fkA_6 := blk_free kA 6
  have fkA_7 := blk_free kA 7
  have fkA_8 := blk_free kA 8
  have fkA_9 := blk_free kA 9
  have okB := blk_older kB
  have ckB_0 : _ = some _ := blk_cell kB 0
  have ckB_1 : _ = some _ := blk_cell kB 1
  have ckB_2 : _ = some _ := blk_cell kB 2
  have ckB_3 : _ = some _ := blk_cell kB 3
  have ckB_4 : _ = some _ := blk_cell kB 4
  have ckB_5 : _ = some _ := blk_cell kB 5
  have ckB_6 : _ = some _ := blk_cell kB 6
  have ckB_7 : _ = some _ := blk_cell kB 7
  have ckB_8 : _ = some _ := blk_cell kB 8
  have ckB_9 : _ = some _ := blk_cell kB 9
  have fkB_0 := blk_free kB 0
  have fkB_1 := blk_free kB 1
  have fkB_2 := blk_free kB 2
  have fkB_3 := blk_free kB 3
  have fkB_4 := blk_free kB 4
  have fkB_5 := blk_free kB 5
  have fkB_6 := blk_free kB 6
  have fkB_7 := blk_free kB 7
  have fkB_8 := blk_free kB 8
  have fkB_9 := blk_free kB 9
  by_cases h1 : g1 = g2
  · have d1 : (g1 == g2) = true := by rw [beq_iff_eq]; exact h1
    by_cases h2 : g1 = 0
    · have d2 : (g1 != 0) = false := by rw [bne_eq_false_iff_eq]; exact h2
      have hE : Hid (D = ((bits .and .i64 c1 m2 != 0) && (bits .and .i64 c2 m1 != 0))) := by show _ = _; rw [← hD.out]; unfold shc; rw [if_neg (fun h => h.2 h2)]
      clear h1 h2
      generalize hx : (bits .and .i64 c1 m2 != 0) = x at *
      cases x
      all_goals
        simp only [Bool.true_and, Bool.false_and] at hE
        obtain rfl := hE.out
        go_wp2_with fail
        go_ret
        exact ⟨rfl, bBel⟩
    · have d2 : (g1 != 0) = true := by rw [bne_iff_ne]; exact h2
      have hE : Hid (D = decide (0 < g1)) := by show _ = _; rw [← hD.out]; unfold shc; rw [if_pos ⟨h1, h2⟩]
      clear h1 h2
      obtain rfl := hE.out
      go_wp2_with fail
      go_ret
      exact ⟨rfl, bBel⟩
  · have d1 : (g1 == g2) = false := by rw [beq_eq_false_iff_ne]; exact h1
    have hE : Hid (D = ((bits .and .i64 c1 m2 != 0) && (bits .and .i64 c2 m1 != 0))) := by show _ = _; rw [← hD.out]; unfold shc; rw [if_neg (fun h => h1 h.1)]
    clear h1
    generalize hx : (bits .and .i64 c1 m2 != 0) = x at *
    cases x
    all_goals
      simp only [Bool.true_and, Bool.false_and] at hE
      obtain rfl := hE.out
      go_wp2_with fail
      go_ret
      exact ⟨rfl, bBel⟩

set_option maxRecDepth 100000 in
set_option maxHeartbeats 8000000 in
theorem rfst_b (A : Option Addr) (cap : Nat) (l : List Bdy) (i : Nat) (hi : i < l.length) (hl : l.length ≤ 1000000) (w : World) (h : Bods w A l) (D : Bool) (hD : ((l.take i).all fun x => !(x.i == (l[i]).i)) = D) : Calls Tryz.prog 31 #[.slice A l.length cap, .int .i64 (i : Int)] w fun e w' => e = .returned (.bool D) ∧ Below w.heap.size w w' := by
  obtain ⟨b, off, rfl, hbl, hc0⟩ := bods_open h (by omega)
  have hc := show Hid _ from hc0
  clear hc0 h
  have hD' : Hid (((l.take i).all fun x => !(x.i == (l[i]).i)) = D) := hD
  clear hD
  have hil : (i : Int) < (l.length : Int) := by omega
  go_enter Tryz.func31, Tryz.ntmps31
  go_wp2_with fail
  go_loopw [5] (fun j wr => ∃ k : Nat, k ≤ i ∧ j = .int .i64 (k : Int) ∧ Hid (∀ x ∈ l.take k, x.i ≠ l[i].i) ∧ Below w.heap.size w wr) (fun j _ => i - (intOf j).toNat)
  case atStart => exact ⟨0, by omega, rfl, fun x hx => (by simp at hx), Below.refl _ _⟩
  case round =>
    obtain ⟨k, hk, rfl, hno, hb⟩ := hrel
    have hszR := hb.size
    by_cases hlt : k < i
    · have hkl : (k : Int) < (l.length : Int) := by omega
      obtain ⟨-, hr⟩ := hc.out k (by omega)
      obtain ⟨o, hr⟩ := hr wr hb
      obtain ⟨-, hq⟩ := hc.out i hi
      obtain ⟨-, hq⟩ := hq wr hb
      have d0 : wr.cell? ⟨b, off + k * 20, none⟩ = some (.int .i64 (l[k]'(by omega)).i) := hr 0 _ rfl
      have f0 : wr.cell? ⟨b, off + i * 20, none⟩ = some (.int .i64 l[i].i) := hq 0 _ rfl
      have hno2 : Hid ((l[k]'(by omega)).i ≠ l[i].i → ∀ x ∈ l.take (k + 1), x.i ≠ l[i].i) := fun h2 x hx => by
        rw [← List.take_append_getElem (by omega : k < l.length)] at hx
        rcases List.mem_append.1 hx with hx | hx
        · exact hno.out x hx
        · simp at hx; subst hx; exact h2
      have hyes : Hid ((l[k]'(by omega)).i = l[i].i → D = false) := fun h2 => by
        rw [← hD'.out, List.all_eq_false]
        exact ⟨l[k]'(by omega), List.mem_take_iff_getElem.2 ⟨k, by omega, rfl⟩, by simp [h2]⟩
      clear hr hq hno
      obtain ⟨x, hx0⟩ : ∃ x, (l[k]'(by omega)).i = x := ⟨_, rfl⟩
      have hx : Hid ((l[k]'(by omega)).i = x) := hx0
      clear hx0
      obtain ⟨y, hy0⟩ : ∃ y, l[i].i = y := ⟨_, rfl⟩
      have hy : Hid (l[i].i = y) := hy0
      clear hy0
      rw [hx.out] at d0 hno2 hyes
      rw [hy.out] at f0 hyes
      by_cases c : x = y
      · have c1 : (x == y) = true := by rw [beq_iff_eq]; exact c
        obtain rfl := hyes.out c
        clear c hno2 hyes hx hy
        go_wp2_with fail
        refine wp_region_gw (by kernel_rfl) (by kernel_rfl) ?_
        repeat (go_big_quiet_step (fail))
        refine wpQuiet_nil ?_
        intro w1 hw1
        obtain ⟨q, rfl⟩ := hw1
        go_wp2_with fail
        go_ret
        exact ⟨rfl, bBel⟩
      · have c1 : (x == y) = false := by rw [beq_eq_false_iff_ne]; exact c
        have hn4 : Hid (∀ x ∈ l.take (k + 1), x.i ≠ l[i].i) := hno2.out (by rw [hy.out]; exact c)
        clear c hno2 hyes hx hy
        go_wp2_with fail
        refine wp_region_gw (by kernel_rfl) (by kernel_rfl) ?_
        repeat (go_big_quiet_step (fail))
        refine wpQuiet_nil ?_
        intro w1 hw1
        obtain ⟨q, rfl⟩ := hw1
        go_wp2_with fail
        exact ⟨⟨k + 1, by omega, by go_num, hn4, bBel⟩, by (try go_num); simp [intOf]; (try omega)⟩
    · obtain rfl : k = i := by omega
      obtain rfl : D = true := by
        rw [← hD'.out, List.all_eq_true]
        intro x hx
        have := hno.out x hx
        simpa using this
      go_wp2_with fail
      go_ret
      exact ⟨rfl, bBel⟩

/-- Whether some joint connects two bodies. -/
def cnj (js : List Jnt) (a b : Int) : Bool := js.any fun j => !j.cc && (j.a == a && j.b == b || j.a == b && j.b == a)

set_option maxRecDepth 100000 in
set_option maxHeartbeats 16000000 in
theorem rcnj_b (A : Option Addr) (cap : Nat) (l : List Jnt) (a b : Int) (hl : l.length ≤ 1000000) (w : World) (h : Jnts w A l) : Calls Tryz.prog 21 #[.slice A l.length cap, .int .i64 a, .int .i64 b] w fun e w' => e = .returned (.bool (cnj l a b)) ∧ Below w.heap.size w w' := by
  obtain ⟨D, hD'⟩ : ∃ D, Hid (cnj l a b = D) := ⟨_, rfl⟩
  rw [hD'.out]
  go_enter Tryz.func21, Tryz.ntmps21
  go_wp2_with fail
  go_loopw [7] (fun j wr => ∃ k : Nat, k ≤ l.length ∧ j = .int .i64 (k : Int) ∧ Hid (cnj (l.take k) a b = false) ∧ Below w.heap.size w wr) (fun j _ => l.length - (intOf j).toNat)
  case atStart => exact ⟨0, by omega, rfl, (by show _ = _; simp [cnj]), Below.refl _ _⟩
  case round =>
    obtain ⟨k, hk, rfl, hno, hb⟩ := hrel
    have hszR := hb.size
    by_cases hlt : k < l.length
    · obtain ⟨bl, off, rfl, hbl, hc0⟩ := jnts_open h (by omega)
      obtain ⟨-, hr⟩ := hc0 k hlt
      obtain ⟨o, hr⟩ := hr wr hb
      have hst : Hid (cnj (l.take (k + 1)) a b = (cnj (l.take k) a b || (!l[k].cc && (l[k].a == a && l[k].b == b || l[k].a == b && l[k].b == a)))) := by
        show _ = _
        rw [← List.take_append_getElem hlt]; unfold cnj; rw [List.any_append]; simp
      have hmem : Hid ((!l[k].cc && (l[k].a == a && l[k].b == b || l[k].a == b && l[k].b == a)) = true → D = true) := fun h2 => by
        rw [← hD'.out]; unfold cnj
        exact List.any_eq_true.2 ⟨l[k], List.getElem_mem hlt, h2⟩
      rw [show cnj (l.take k) a b = false from hno.out, Bool.false_or] at hst
      clear hc0 hno
      generalize l[k] = f at *
      obtain ⟨ji, jk, ja, jb, ax, ay, bx, b_y, ux, uy, ra, el, lo, up, em, ms, mf, sf, br, cc, m0, m1, m2, m3⟩ := f
      dsimp only at hst hmem
      have hr' : Hid (wr.rangeAt bl (off + k * 24) [.int .i64 ji, .int .i64 jk, .int .i64 ja, .int .i64 jb, .int .i64 ax, .int .i64 ay, .int .i64 bx, .int .i64 b_y, .int .i64 ux, .int .i64 uy, .int .i64 ra, .bool el, .int .i64 lo, .int .i64 up, .bool em, .int .i64 ms, .int .i64 mf, .int .i64 sf, .int .i64 br, .bool cc, .int .i64 m0, .int .i64 m1, .int .i64 m2, .int .i64 m3]) := hr
      clear hr
      go_upto_region 5 with (first
        | (refine wpList_load_mid rfl 89 _ rfl bl (off + k * 24) rfl _ _ hr'.out Tryz.underlying89 rfl (by kernel_rfl) ?_)
        | (refine wpList_store_wide rfl 89 _ _ rfl wr.heap.size [.int .i64 ji, .int .i64 jk, .int .i64 ja, .int .i64 jb, .int .i64 ax, .int .i64 ay, .int .i64 bx, .int .i64 b_y, .int .i64 ux, .int .i64 uy, .int .i64 ra, .bool el, .int .i64 lo, .int .i64 up, .bool em, .int .i64 ms, .int .i64 mf, .int .i64 sf, .int .i64 br, .bool cc, .int .i64 m0, .int .i64 m1, .int .i64 m2, .int .i64 m3] rfl rfl _ _ bBkn (by kernel_rfl) (by kernel_rfl) (by kernel_rfl) ?_; intro V kV hbV koV hzV))
      have q2 : V.cell? ⟨wr.heap.size, 2, none⟩ = some (.int .i64 ja) := blk_cell kV 2
      have q3 : V.cell? ⟨wr.heap.size, 3, none⟩ = some (.int .i64 jb) := blk_cell kV 3
      have q19 : V.cell? ⟨wr.heap.size, 19, none⟩ = some (.bool cc) := blk_cell kV 19
      have oV : older wr.heap.size V = true := blk_older kV
      have hbwV : Below w.heap.size w V := hbV _ _ hszR bBel
      clear hbV koV kV hzV hr' o
      cases cc
      · cases e1 : (ja == a)
        · cases e3 : (ja == b)
          · have hn : Hid (cnj (l.take (k + 1)) a b = false) := by show _ = _; rw [hst.out]; simp [e1, e3]
            clear hmem hst
            go_wp2_with fail
            exact ⟨⟨k + 1, by omega, by go_num, hn, bBel⟩, by (try go_num); simp [intOf]; (try omega)⟩
          · cases e4 : (jb == a)
            · have hn : Hid (cnj (l.take (k + 1)) a b = false) := by show _ = _; rw [hst.out]; simp [e1, e3, e4]
              clear hmem hst
              go_wp2_with fail
              exact ⟨⟨k + 1, by omega, by go_num, hn, bBel⟩, by (try go_num); simp [intOf]; (try omega)⟩
            · obtain rfl := hmem.out (by simp [e1, e3, e4])
              clear hmem hst
              go_wp2_with fail
              go_ret
              exact ⟨rfl, bBel⟩
        · cases e2 : (jb == b)
          · cases e3 : (ja == b)
            · have hn : Hid (cnj (l.take (k + 1)) a b = false) := by show _ = _; rw [hst.out]; simp [e1, e2, e3]
              clear hmem hst
              go_wp2_with fail
              exact ⟨⟨k + 1, by omega, by go_num, hn, bBel⟩, by (try go_num); simp [intOf]; (try omega)⟩
            · cases e4 : (jb == a)
              · have hn : Hid (cnj (l.take (k + 1)) a b = false) := by show _ = _; rw [hst.out]; simp [e1, e2, e3, e4]
                clear hmem hst
                go_wp2_with fail
                exact ⟨⟨k + 1, by omega, by go_num, hn, bBel⟩, by (try go_num); simp [intOf]; (try omega)⟩
              · obtain rfl := hmem.out (by simp [e1, e2, e3, e4])
                clear hmem hst
                go_wp2_with fail
                go_ret
                exact ⟨rfl, bBel⟩
          · obtain rfl := hmem.out (by simp [e1, e2])
            clear hmem hst
            go_wp2_with fail
            go_ret
            exact ⟨rfl, bBel⟩
      · have hn : Hid (cnj (l.take (k + 1)) a b = false) := by show _ = _; rw [hst.out]; simp [Bool.not_true]
        clear hmem hst
        go_wp2_with fail
        exact ⟨⟨k + 1, by omega, by go_num, hn, bBel⟩, by (try go_num); simp [intOf]; (try omega)⟩
    · obtain rfl : k = l.length := by omega
      obtain rfl : D = false := by
        rw [← hD'.out]; have := hno.out; rw [List.take_length] at this; exact this
      go_wp2_with fail
      go_ret
      exact ⟨rfl, bBel⟩

end Go.Proofs.YtaahgblkmajceaaGreat
