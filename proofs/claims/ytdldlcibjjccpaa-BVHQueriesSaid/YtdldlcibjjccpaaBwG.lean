import Derived.Test.YtdldlcibjjccpaaBwF
import Derived.Deep.DeepCutAuto
import Derived.Deep.RegionHeld3
set_option linter.unusedVariables false
set_option linter.unusedSimpArgs false
namespace Go.Proofs.Ytdldlcibjjccpaa
open Go.RowKit Fx

set_option maxRecDepth 100000 in
set_option maxHeartbeats 8000000 in
theorem order_long (A : Option Addr) (cap : Nat) (l : List Bx) (x0 y0 x1 y1 K : Int) (w : World) (hl : 40 < (l.length : Int)) : Calls Try.prog 5 #[.slice A l.length cap, .agg #[.int .i64 x0, .int .i64 y0, .int .i64 x1, .int .i64 y1], .int .u8 K] w fun e w' => e = .returned (.bool true) ∧ Below w.heap.size w w' := by
  have cE : ExC := example20_b
  go_enter Try.func5, Try.ntmps5
  go_wp2_with (go_at_call 10; refine Calls.mono (gw_at (cE _)) ?_; rintro e w1 ⟨rfl, qE, rfl⟩)
  go_ret
  exact ⟨rfl, bBel⟩

set_option maxRecDepth 100000 in
set_option maxHeartbeats 64000000 in
theorem order_main (A : Option Addr) (cap : Nat) (l : List Bx) (x0 y0 x1 y1 : Int) (K : Nat) (hK : K ≤ 255) (w : World) (ha : Bxa w A l) (hl : l.length ≤ 40) : Calls Try.prog 5 #[.slice A l.length cap, .agg #[.int .i64 x0, .int .i64 y0, .int .i64 x1, .int .i64 y1], .int .u8 (K : Int)] w fun e w' => e = .returned (.bool true) ∧ Below w.heap.size w w' := by
  have cE : ExC := example20_b
  obtain ⟨n, hn'⟩ : ∃ n, l.length = n := ⟨_, rfl⟩
  rw [hn'] at hl ⊢
  have hn : Hid (l.length = n) := hn'
  clear hn'
  have hni : ¬ (40 : Int) < (n : Int) := by omega
  go_enter Try.func5, Try.ntmps5
  go_upto_region 3 with fail
  refine wp_named ?_
  intro W hW
  have kb : blk W w.heap.size #[.int .i64 x0, .int .i64 y0, .int .i64 x1, .int .i64 y1] 26 := by rw [hW]; exact bBkn
  have hbW : Below w.heap.size w W := by rw [hW]; exact bBel
  clear hW
  have hlt := blk_lt kb
  have hszW := hbW.size
  go_wp2_with (go_at_call 11; fail "x")
  refine Calls.mono (new_b _) ?_
  rintro e W0 ⟨rfl, kt, hb0⟩
  have hTs := new_tree kt
  clear kt
  go_wp2_with (go_at_call 11; fail "x")
  refine Calls.mono (new_b _) ?_
  rintro e V ⟨rfl, kt, hb1⟩
  have hTt := new_tree kt
  clear kt
  have hTsV := hTs.below hb1
  have hz0 := hb0.size
  have hz1 := hb1.size
  have hl0 := hTs.lt _ rfl
  have hl1 := hTt.lt _ rfl
  have hbV : Below W.heap.size W V := hb0.trans (hb1.mono hz0)
  clear hb0 hb1 hTs
  generalize W0.heap.size = tt at *
  have hst : W.heap.size ≠ tt := by omega
  have hVP : Hid (∀ k, V.heap.size ≤ k → k = W.heap.size ∨ V.heap.size ≤ k) := fun k h => .inr h
  have hbwV : Below w.heap.size w V := hbW.trans (hbV.mono hszW)
  have hszV := hbV.size
  go_wp2_with fail
  go_loopw [9] (fun i wr => ∃ k : Nat, k ≤ n ∧ i = .int .i64 (k : Int) ∧ ∃ L S, Hid (Mem l (fun j => j < k) L ∧ L.length ≤ k) ∧ TreeAt wr W.heap.size L S ∧ Hid (∀ k, S k → k = W.heap.size ∨ V.heap.size ≤ k) ∧ But (fun k => k = W.heap.size ∨ V.heap.size ≤ k) V wr) (fun i _ => n - (intOf i).toNat)
  case atStart => exact ⟨0, by omega, rfl, [], _, (show Mem l (fun j => j < 0) [] ∧ ([] : Bxs).length ≤ 0 from ⟨Mem.nil l fun j h => Nat.not_lt_zero _ h, Nat.le_refl _⟩), hTsV.below bBel, (show ∀ k, k = W.heap.size → k = W.heap.size ∨ V.heap.size ≤ k from fun k h => .inl h), But.ofBelow bBel _⟩
  case round =>
    obtain ⟨k, hk, rfl, L, S, hG, hT, hS, hB⟩ := hrel
    have hbwr : Below w.heap.size w wr := hbwV.trans (bel_of_but hB (fun k hk => by rcases hk with h | h <;> omega) (by omega))
    by_cases hkn : k < n
    · have hki : (k : Int) < (n : Int) := by omega
      have hkl : k < l.length := by have := hn.out; omega
      obtain ⟨b, off, rfl, hbl, hcell⟩ := bxa_open ha (by omega)
      obtain ⟨o, d0, d1, d2, d3⟩ := hcell k hkl wr hbwr
      have hx : l[k]? = some l[k] := List.getElem?_eq_getElem hkl
      clear hcell
      generalize l[k] = x at *
      have hG2 : Hid (Mem l (fun j => j < k + 1) (insT L (k : Int) x) ∧ (insT L (k : Int) x).length ≤ k + 1) := show Mem l (fun j => j < k + 1) (insT L (k : Int) x) ∧ (insT L (k : Int) x).length ≤ k + 1 from ⟨(hG.out.1.ins hx (Nat.lt_irrefl k) (by have := hG.out.2; omega)).congr fun j => (by omega), by have := len_insT L (k : Int) x; have := hG.out.2; omega⟩
      clear hx
      obtain ⟨a0, a1, a2, a3⟩ := x
      dsimp only at d0 d1 d2 d3
      clear hkl
      have cI := ins_c W.heap.size L (insT L (k : Int) ⟨a0, a1, a2, a3⟩) (k : Int) a0 a1 a2 a3 (insC L (k : Int) ⟨a0, a1, a2, a3⟩) (by unfold i64k; omega) rfl rfl
      clear hG hbwr
      generalize insT L (k : Int) ⟨a0, a1, a2, a3⟩ = L2 at *
      generalize insC L (k : Int) ⟨a0, a1, a2, a3⟩ = c2 at *
      go_wp2_with (go_at_call 25; refine turn_useV cI (hT.below bBel) bBut hS hVP ?_; intro W2 S2 hT2 hS2 hB2)
      refine ⟨⟨k + 1, by omega, by go_num, L2, S2, hG2, hT2, hS2, bBut⟩, by (try go_num); simp [intOf]; (try omega)⟩
    · obtain rfl : k = n := by omega
      have hTtU : TreeAt wr tt [] (fun k => k = tt) := hTt.but hB fun k hk hh => by
        rcases hh with hh | hh
        · exact hst (hh.symm.trans hk)
        · omega
      have hSs : Hid (∀ k, S k → k < wr.heap.size ∧ k ≠ tt ∧ w.heap.size ≤ k) := show ∀ k, S k → k < wr.heap.size ∧ k ≠ tt ∧ w.heap.size ≤ k from fun k hk => ⟨hT.lt k hk, by
        rcases hS.out k hk with hh | hh
        · omega
        · omega, by
        rcases hS.out k hk with hh | hh
        · omega
        · omega⟩
      have htU : tt < wr.heap.size := hTtU.lt _ rfl
      have httw : w.heap.size ≤ tt := by omega
      have hszU := hbwr.size
      have hVP2 : Hid (∀ k, wr.heap.size ≤ k → k = tt ∨ wr.heap.size ≤ k) := fun k h => .inr h
      have kbU := hB.blk (blk_low kb hbV hlt) (by intro hh; rcases hh with hh | hh <;> omega)
      clear hTt hTsV hVP hB hS hbV hl0 hl1 hbwV
      generalize hWs : W.heap.size = ss at *
      generalize wr = U at *
      go_wp2_with fail
      go_loopw [10] (fun i wx => ∃ m : Nat, m ≤ k ∧ i = .int .i64 ((m : Int) - 1) ∧ ∃ L S, Hid (Mem l (fun j => m ≤ j ∧ j < k) L ∧ L.length + 4 * m ≤ 4 * k) ∧ TreeAt wx tt L S ∧ Hid (∀ k, S k → k = tt ∨ U.heap.size ≤ k) ∧ But (fun k => k = tt ∨ U.heap.size ≤ k) U wx) (fun i _ => (intOf i + 1).toNat)
      case atStart => exact ⟨k, by omega, by go_num, [], _, (show Mem l (fun j => k ≤ j ∧ j < k) [] ∧ ([] : Bxs).length + 4 * k ≤ 4 * k from ⟨Mem.nil l fun j h => by omega, by simp⟩), hTtU.below bBel, (show ∀ k, k = tt → k = tt ∨ U.heap.size ≤ k from fun k h => .inl h), But.ofBelow bBel _⟩
      case round =>
        obtain ⟨m, hm, rfl, Lt, St, hGt, hTt, hSt, hBt⟩ := hrel
        by_cases hm0 : 0 < m
        · obtain ⟨i, rfl⟩ : ∃ i, m = i + 1 := ⟨m - 1, by omega⟩
          have ei : ((i + 1 : Nat) : Int) - 1 = (i : Int) := by omega
          rw [ei]
          obtain ⟨q, hq⟩ : ∃ q, (i + K) % k = q := ⟨_, rfl⟩
          have hqk : q < k := by rw [← hq]; exact Nat.mod_lt _ (by omega)
          have hqi : (q : Int) < (k : Int) := by omega
          have hk0 : ¬ (k : Int) = 0 := by omega
          have hii : (i : Int) < (k : Int) := by omega
          have hi0 : (0 : Int) ≤ (i : Int) := by omega
          have f2 : ((i : Int) + (K : Int)) % (k : Int) = (q : Int) := by rw [← hq, Int.natCast_emod, Int.natCast_add]
          have f1 : ((i : Int) + (K : Int)).tmod (k : Int) = (q : Int) := by rw [Int.tmod_eq_emod_of_nonneg (by omega)]; exact f2
          clear hq
          have hil : i < l.length := by have := hn.out; omega
          have hql : q < l.length := by have := hn.out; omega
          obtain ⟨b, off, rfl, hbl, hcell⟩ := bxa_open ha (by omega)
          have hx : l[i]? = some l[i] := List.getElem?_eq_getElem hil
          have hcellX : ∀ w', But (fun k => k = tt ∨ U.heap.size ≤ k) U w' → older b w' = true ∧ w'.cell? ⟨b, off + i * 4, none⟩ = some (.int .i64 l[i].x0) ∧ w'.cell? ⟨b, off + i * 4 + 1, none⟩ = some (.int .i64 l[i].y0) ∧ w'.cell? ⟨b, off + i * 4 + 2, none⟩ = some (.int .i64 l[i].x1) ∧ w'.cell? ⟨b, off + i * 4 + 3, none⟩ = some (.int .i64 l[i].y1) := fun w' h => hcell i hil w' (hbwr.trans (bel_of_but h (fun k hk => by rcases hk with h | h <;> omega) (by omega)))
          have hcellY : ∀ w', But (fun k => k = tt ∨ U.heap.size ≤ k) U w' → older b w' = true ∧ w'.cell? ⟨b, off + q * 4, none⟩ = some (.int .i64 l[q].x0) ∧ w'.cell? ⟨b, off + q * 4 + 1, none⟩ = some (.int .i64 l[q].y0) ∧ w'.cell? ⟨b, off + q * 4 + 2, none⟩ = some (.int .i64 l[q].x1) ∧ w'.cell? ⟨b, off + q * 4 + 3, none⟩ = some (.int .i64 l[q].y1) := fun w' h => hcell q hql w' (hbwr.trans (bel_of_but h (fun k hk => by rcases hk with h | h <;> omega) (by omega)))
          clear hcell
          generalize l[i] = x at *
          generalize l[q] = y at *
          have hR := mem_round (y := y) hGt.out.1 hx (by omega) (by have := hGt.out.2; omega)
          obtain ⟨a0, a1, a2, a3⟩ := x
          obtain ⟨b0, b1, b2, b3⟩ := y
          dsimp only at hcellX hcellY
          clear hil hql hx
          have hk64 : i64k (i : Int) := by unfold i64k; omega
          have hn64 : i64k (-1 - (i : Int)) := by unfold i64k; omega
          have hlen1 := len_insT Lt (-1 - (i : Int)) ⟨a0, a1, a2, a3⟩
          have hlen2 := len_insT (insT Lt (-1 - (i : Int)) ⟨a0, a1, a2, a3⟩) (i : Int) ⟨b0, b1, b2, b3⟩
          have hlen3 := len_remL (insT (insT Lt (-1 - (i : Int)) ⟨a0, a1, a2, a3⟩) (i : Int) ⟨b0, b1, b2, b3⟩) (-1 - (i : Int))
          have cI1 := ins_c tt Lt (insT Lt (-1 - (i : Int)) ⟨a0, a1, a2, a3⟩) (-1 - (i : Int)) a0 a1 a2 a3 _ hn64 rfl rfl
          have cI2 := ins_c tt (insT Lt (-1 - (i : Int)) ⟨a0, a1, a2, a3⟩) (insT (insT Lt (-1 - (i : Int)) ⟨a0, a1, a2, a3⟩) (i : Int) ⟨b0, b1, b2, b3⟩) (i : Int) b0 b1 b2 b3 _ hk64 rfl rfl
          have cR3 := rem_c tt (insT (insT Lt (-1 - (i : Int)) ⟨a0, a1, a2, a3⟩) (i : Int) ⟨b0, b1, b2, b3⟩) (remL (insT (insT Lt (-1 - (i : Int)) ⟨a0, a1, a2, a3⟩) (i : Int) ⟨b0, b1, b2, b3⟩) (-1 - (i : Int))) (-1 - (i : Int)) _ hn64 rfl rfl
          generalize remL (insT (insT Lt (-1 - (i : Int)) ⟨a0, a1, a2, a3⟩) (i : Int) ⟨b0, b1, b2, b3⟩) (-1 - (i : Int)) = L3 at *
          generalize (look (insT (insT Lt (-1 - (i : Int)) ⟨a0, a1, a2, a3⟩) (i : Int) ⟨b0, b1, b2, b3⟩) (-1 - (i : Int))).isSome = r3 at *
          generalize insC (insT Lt (-1 - (i : Int)) ⟨a0, a1, a2, a3⟩) (i : Int) ⟨b0, b1, b2, b3⟩ = r2 at *
          generalize insT (insT Lt (-1 - (i : Int)) ⟨a0, a1, a2, a3⟩) (i : Int) ⟨b0, b1, b2, b3⟩ = L2 at *
          generalize insC Lt (-1 - (i : Int)) ⟨a0, a1, a2, a3⟩ = r1 at *
          generalize insT Lt (-1 - (i : Int)) ⟨a0, a1, a2, a3⟩ = L1 at *
          have hlen4 := len_updT L3 (i : Int) ⟨a0, a1, a2, a3⟩
          have cU4 := upd_c tt L3 (updT L3 (i : Int) ⟨a0, a1, a2, a3⟩) (i : Int) a0 a1 a2 a3 _ hk64 rfl rfl
          have cR5 := rem_c tt (updT L3 (i : Int) ⟨a0, a1, a2, a3⟩) (remL (updT L3 (i : Int) ⟨a0, a1, a2, a3⟩) (i : Int)) (i : Int) _ hk64 rfl rfl
          have hlen5 := len_remL (updT L3 (i : Int) ⟨a0, a1, a2, a3⟩) (i : Int)
          have cI6 := ins_c tt (remL (updT L3 (i : Int) ⟨a0, a1, a2, a3⟩) (i : Int)) (insT (remL (updT L3 (i : Int) ⟨a0, a1, a2, a3⟩) (i : Int)) (i : Int) ⟨a0, a1, a2, a3⟩) (i : Int) a0 a1 a2 a3 _ hk64 rfl rfl
          have hlen6 := len_insT (remL (updT L3 (i : Int) ⟨a0, a1, a2, a3⟩) (i : Int)) (i : Int) ⟨a0, a1, a2, a3⟩
          have hlt0 := hGt.out.2
          have hR1 : Hid (updC L3 (i : Int) ⟨a0, a1, a2, a3⟩ = 0 → Mem l (fun j => i ≤ j ∧ j < k) (updT L3 (i : Int) ⟨a0, a1, a2, a3⟩) ∧ (updT L3 (i : Int) ⟨a0, a1, a2, a3⟩).length + 4 * i ≤ 4 * k) := fun h => ⟨(hR.1 h).congr fun j => (by omega), by omega⟩
          have hR2 : Hid (¬ updC L3 (i : Int) ⟨a0, a1, a2, a3⟩ = 0 → Mem l (fun j => i ≤ j ∧ j < k) (insT (remL (updT L3 (i : Int) ⟨a0, a1, a2, a3⟩) (i : Int)) (i : Int) ⟨a0, a1, a2, a3⟩) ∧ (insT (remL (updT L3 (i : Int) ⟨a0, a1, a2, a3⟩) (i : Int)) (i : Int) ⟨a0, a1, a2, a3⟩).length + 4 * i ≤ 4 * k) := fun h => ⟨(hR.2 h).congr fun j => (by omega), by omega⟩
          clear hlen1 hlen2 hlen3 hlen4 hlen5 hlen6 hR hGt hlt0 hk64 hn64 ei
          generalize insT (remL (updT L3 (i : Int) ⟨a0, a1, a2, a3⟩) (i : Int)) (i : Int) ⟨a0, a1, a2, a3⟩ = L6 at *
          generalize insC (remL (updT L3 (i : Int) ⟨a0, a1, a2, a3⟩) (i : Int)) (i : Int) ⟨a0, a1, a2, a3⟩ = r6 at *
          generalize remL (updT L3 (i : Int) ⟨a0, a1, a2, a3⟩) (i : Int) = L5 at *
          generalize (look (updT L3 (i : Int) ⟨a0, a1, a2, a3⟩) (i : Int)).isSome = r5 at *
          generalize updT L3 (i : Int) ⟨a0, a1, a2, a3⟩ = L4 at *
          generalize updC L3 (i : Int) ⟨a0, a1, a2, a3⟩ = r4 at *
          obtain ⟨o, d0, d1, d2, d3⟩ := hcellX _ hBt
          go_upto_region 12 with (go_at_call 25; refine turn_useV cI1 (hTt.below bBel) bBut hSt hVP2 ?_; intro W1 S1 hT1 hS1 hB1)
          obtain ⟨oy, e0, e1, e2, e3⟩ := hcellY _ hB1
          go_upto_region 13 with (go_at_call 25; refine turn_useV cI2 (hT1.below bBel) bBut hS1 hVP2 ?_; intro W2 S2 hT2 hS2 hB2)
          go_upto_region 14 with (go_at_call 26; refine turn_useV cR3 (hT2.below bBel) bBut hS2 hVP2 ?_; intro W3 S3 hT3 hS3 hB3)
          obtain ⟨o3, g0, g1, g2, g3⟩ := hcellX _ hB3
          by_cases h4 : r4 = 0
          · subst h4
            have hGn := hR1.out rfl
            clear hR1 hR2
            go_wp2_with (go_at_call 27; refine turn_useV cU4 (hT3.below bBel) bBut hS3 hVP2 ?_; intro W4 S4 hT4 hS4 hB4)
            refine ⟨⟨i, by omega, by go_num, L4, S4, hGn, hT4, hS4, bBut⟩, by (try go_num); simp [intOf]; (try omega)⟩
          · have hGn : Hid _ := hR2.out h4
            clear hR1 hR2
            go_upto_region 15 with (go_at_call 27; refine turn_useV cU4 (hT3.below bBel) bBut hS3 hVP2 ?_; intro W4 S4 hT4 hS4 hB4)
            go_upto_region 16 with (go_at_call 26; refine turn_useV cR5 (hT4.below bBel) bBut hS4 hVP2 ?_; intro W5 S5 hT5 hS5 hB5)
            obtain ⟨o5, j0, j1, j2, j3⟩ := hcellX _ hB5
            go_wp2_with (go_at_call 25; refine turn_useV cI6 (hT5.below bBel) bBut hS5 hVP2 ?_; intro W6 S6 hT6 hS6 hB6)
            refine ⟨⟨i, by omega, by go_num, L6, S6, hGn, hT6, hS6, bBut⟩, by (try go_num); simp [intOf]; (try omega)⟩
        · obtain rfl : m = 0 := by omega
          have em : ((0 : Nat) : Int) - 1 = -1 := by decide
          rw [em]
          clear em
          obtain rfl : Lt = L := Mem.eq (hGt.out.1.congr fun j => (by omega)) hG.out.1 hTt.srt hT.srt
          have hTs : TreeAt wr ss Lt S := hT.but hBt fun k hk hh => by
            have := hSs.out k hk
            rcases hh with hh | hh <;> omega
          have kbX := hBt.blk kbU (by intro hh; rcases hh with hh | hh <;> omega)
          have hbZ : Below w.heap.size w wr := hbwr.trans (bel_of_but hBt (fun k hk => by rcases hk with h | h <;> omega) (by omega))
          clear hGt hG hSt hBt hT hSs hVP2 kbU hTtU hbwr
          go_upto_region 17 with fail
          generalize wr = X at *
          have hszX := hbZ.size
          have cN : ∀ a w S, TreeAt w a Lt S → Calls Try.prog 17 #[.pointer (some ⟨a, 0, none⟩)] w fun e w' => e = .returned (.int .i64 (Lt.length : Int)) ∧ Below w.heap.size w w' := fun a w S h => len_b a Lt S w h
          have cQ : ∀ a w S, TreeAt w a Lt S → Calls Try.prog 19 #[.pointer (some ⟨a, 0, none⟩), .agg #[.int .i64 x0, .int .i64 y0, .int .i64 x1, .int .i64 y1]] w fun e w' => (∃ v, e = .returned v ∧ w'.ownsRow w.heap.size 3 1 v (hitL Lt (fun b => Bx.ovl b ⟨x0, y0, x1, y1⟩)).length (iv (hitL Lt (fun b => Bx.ovl b ⟨x0, y0, x1, y1⟩)))) ∧ Below w.heap.size w w' := fun a w S h => query_b a Lt S x0 y0 x1 y1 w h
          have hQl : (hitL Lt (fun b => Bx.ovl b ⟨x0, y0, x1, y1⟩)).length ≤ 4096 := Nat.le_trans (hitL_len _ _) hTt.len
          have cY : ∀ a w S, TreeAt w a Lt S → Calls Try.prog 20 #[.pointer (some ⟨a, 0, none⟩), .agg #[.int .i64 x0, .int .i64 y0], .agg #[.int .i64 x1, .int .i64 y1]] w fun e w' => (∃ v, e = .returned v ∧ w'.ownsRow w.heap.size 3 1 v (hitL Lt (fun b => Bx.seg b x0 y0 x1 y1)).length (iv (hitL Lt (fun b => Bx.seg b x0 y0 x1 y1)))) ∧ Below w.heap.size w w' := fun a w S h => ray_b a Lt S x0 y0 x1 y1 w h
          have hYl : (hitL Lt (fun b => Bx.seg b x0 y0 x1 y1)).length ≤ 4096 := Nat.le_trans (hitL_len _ _) hTt.len
          have cP : ∀ a w S, TreeAt w a Lt S → Calls Try.prog 22 #[.pointer (some ⟨a, 0, none⟩)] w fun e w' => (∃ v, e = .returned v ∧ w'.ownsRow w.heap.size 41 2 v (prL Lt).length (pv (prL Lt))) ∧ Below w.heap.size w w' := fun a w S h => pairs_b a Lt S w h
          have hPl : (prL Lt).length ≤ 1000000000 := by
            have h1 := prT_len Lt Lt.length
            rw [prT_all] at h1
            have h2 : Lt.length * Lt.length ≤ 4096 * 4096 := Nat.mul_le_mul hTt.len hTt.len
            omega
          generalize hitL Lt (fun b => Bx.ovl b ⟨x0, y0, x1, y1⟩) = Q at *
          generalize hitL Lt (fun b => Bx.seg b x0 y0 x1 y1) = Y at *
          generalize prL Lt = PP at *
          generalize Lt.length = nL at *
          have hcellX : ∀ w', Below X.heap.size X w' → Below X.heap.size X w' ∧ w'.cell? ⟨w.heap.size, 0, none⟩ = some (.int .i64 x0) ∧ w'.cell? ⟨w.heap.size, 1, none⟩ = some (.int .i64 y0) ∧ w'.cell? ⟨w.heap.size, 2, none⟩ = some (.int .i64 x1) ∧ w'.cell? ⟨w.heap.size, 3, none⟩ = some (.int .i64 y1) := fun w' h => by
            have k2 := blk_below h kbX
            exact ⟨h, blk_cell k2 0, blk_cell k2 1, blk_cell k2 2, blk_cell k2 3⟩
          obtain ⟨-, d0, d1, d2, d3⟩ := hcellX X (Below.refl _ _)
          have oX : older w.heap.size X = true := older_of_cell d0
          clear hn hlt hst hszW hbW kb hz0 hz1 hszV hWs ha hni hk hkn hl hm0
          go_region_held3 (fun w' => Below X.heap.size X w' ∧ w'.cell? ⟨w.heap.size, 0, none⟩ = some (.int .i64 x0) ∧ w'.cell? ⟨w.heap.size, 1, none⟩ = some (.int .i64 y0) ∧ w'.cell? ⟨w.heap.size, 2, none⟩ = some (.int .i64 x1) ∧ w'.cell? ⟨w.heap.size, 3, none⟩ = some (.int .i64 y1)) (first | (refine hcellX _ ?_; exact bBel)) (first
            | (go_at_call 17; (with_reducible show Calls _ _ #[.pointer (some ⟨tt, 0, none⟩)] _ _); refine Calls.mono (gw_at (cN _ _ _ (hTt.below bBel))) ?_; rintro e w1 ⟨rfl, qn, rfl⟩)
            | (go_at_call 17; refine Calls.mono (gw_at (cN _ _ _ (hTs.below bBel))) ?_; rintro e w1 ⟨rfl, qm, rfl⟩)
            | (go_at_call 19; (with_reducible show Calls _ _ #[.pointer (some ⟨tt, 0, none⟩), _] _ _); refine Calls.mono (gw_ex (cQ _ _ _ (hTt.below bBel))) ?_; rintro e w1 ⟨⟨v1, rfl, ho1⟩, q1, rfl⟩)
            | (go_at_call 19; refine Calls.mono (gw_ex (cQ _ _ _ (hTs.below bBel))) ?_; rintro e w1 ⟨⟨v2, rfl, ho2⟩, q2, rfl⟩)
            | (go_at_call 20; (with_reducible show Calls _ _ #[.pointer (some ⟨tt, 0, none⟩), _, _] _ _); refine Calls.mono (gw_ex (cY _ _ _ (hTt.below bBel))) ?_; rintro e w1 ⟨⟨v3, rfl, ho3⟩, q3, rfl⟩)
            | (go_at_call 20; refine Calls.mono (gw_ex (cY _ _ _ (hTs.below bBel))) ?_; rintro e w1 ⟨⟨v4, rfl, ho4⟩, q4, rfl⟩)
            | (go_at_call 22; (with_reducible show Calls _ _ #[.pointer (some ⟨tt, 0, none⟩)] _ _); refine Calls.mono (gw_ex (cP _ _ _ (hTt.below bBel))) ?_; rintro e w1 ⟨⟨v5, rfl, ho5⟩, q5, rfl⟩)
            | (go_at_call 22; refine Calls.mono (gw_ex (cP _ _ _ (hTs.below bBel))) ?_; rintro e w1 ⟨⟨v6, rfl, ho6⟩, q6, rfl⟩)
            | (go_at_call 18; (with_reducible show Calls _ _ #[v2, v1] _ _); refine Calls.mono (gw_at (eqints_b _ _ _ _ Q Q _ (owns_below ho2 bBel) (owns_below ho1 bBel) true (by simp) (by omega))) ?_; rintro e w1 ⟨rfl, qe, rfl⟩)
            | (go_at_call 18; (with_reducible show Calls _ _ #[v4, v3] _ _); refine Calls.mono (gw_at (eqints_b _ _ _ _ Y Y _ (owns_below ho4 bBel) (owns_below ho3 bBel) true (by simp) (by omega))) ?_; rintro e w1 ⟨rfl, qg, rfl⟩)
            | (go_at_call 21; (with_reducible show Calls _ _ #[v6, v5] _ _); refine Calls.mono (gw_at (eqpairs_b _ _ _ _ PP PP _ (owns_below ho6 bBel) (owns_below ho5 bBel) true (by simp) (by omega))) ?_; rintro e w1 ⟨rfl, qf, rfl⟩)
            | (go_at_call 10; refine Calls.mono (gw_at (cE _)) ?_; rintro e w1 ⟨rfl, qE, rfl⟩))
          all_goals
            go_wp2_with fail
          all_goals
            go_ret
            exact ⟨rfl, bBel⟩

theorem walk_BVHOrderIndependent (A : Option Addr) (cap : Nat) (l : List Bx) (x0 y0 x1 y1 K : Int) (hK : IntKind.u8.has K) (w : World) (ha : Bxa w A l) : Calls Try.prog 5 #[.slice A l.length cap, .agg #[.int .i64 x0, .int .i64 y0, .int .i64 x1, .int .i64 y1], .int .u8 K] w fun e w' => e = .returned (.bool true) ∧ Below w.heap.size w w' := by
  have h1 := hK.1; have h2 := hK.2
  simp [IntKind.min, IntKind.max, IntKind.bits, IntKind.signed] at h1 h2
  obtain ⟨k, rfl⟩ : ∃ k : Nat, K = (k : Int) := ⟨K.toNat, by omega⟩
  by_cases h : l.length ≤ 40
  · exact order_main A cap l x0 y0 x1 y1 k (by omega) w ha h
  · exact order_long A cap l x0 y0 x1 y1 k w (by omega)

end Go.Proofs.Ytdldlcibjjccpaa
