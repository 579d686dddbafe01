/- Chapter 22: the reference's FindPairs. -/
import Derived.Test.YtaahgblkmajceaaGreatBqI
import Derived.Test.YtaahgblkmajceaaGreatBqJ
set_option linter.unusedVariables false
set_option linter.unusedSimpArgs false
namespace Go.Proofs.YtaahgblkmajceaaGreat
open Go.RowKit Fx Go.Maps

theorem insK_len (k : Ky) (L : List Ky) : (insK L k).length = L.length + 1 := by rw [(insK_perm k L).length_eq]; rfl
theorem srK_len_fold : ∀ (l o : List Ky), (l.foldl insK o).length = o.length + l.length
  | [], o => by simp
  | k :: l, o => by
    have := srK_len_fold l (insK o k)
    rw [insK_len] at this
    simp only [List.foldl_cons, List.length_cons]; omega
theorem srK_len (l : List Ky) : (srK l).length = l.length := by simpa [srK] using srK_len_fold l []
theorem kq_len (a b : Bdy) (p n : Nat) : (kq a b p n).length ≤ n := by
  induction n with
  | zero => simp [kq]
  | succ n ih =>
    rw [kq_succ, List.length_append]
    have : (if hitF a b p n then [kyOf a b p n] else []).length ≤ 1 := by split <;> simp
    omega
theorem kp_len (a b : Bdy) (n : Nat) (h : b.fs.length ≤ 8) : (kp a b n).length ≤ n * 8 := by
  induction n with
  | zero => simp [kp]
  | succ n ih => rw [kp_succ, List.length_append]; have := kq_len a b n b.fs.length; omega
theorem kab_len {l : List Bdy} {js : List Jnt} (h : ∀ x ∈ l, okF x) (i k : Nat) : (kab l js i k).length ≤ 64 := by
  unfold kab
  split
  · rename_i a b ha hb
    split
    · have h1 := (h a (List.mem_of_getElem? ha)).1
      have h2 := kp_len a b a.fs.length (h b (List.mem_of_getElem? hb)).1
      omega
    · simp
  · simp
theorem kk_len {l : List Bdy} {js : List Jnt} (h : ∀ x ∈ l, okF x) (i n : Nat) : (kk l js i n).length ≤ n * 64 := by
  induction n with
  | zero => simp [kk]
  | succ n ih => rw [kk_succ, List.length_append]; have := kab_len (js := js) h i n; omega
theorem ki_len {l : List Bdy} {js : List Jnt} (h : ∀ x ∈ l, okF x) (hl : l.length ≤ 100) (n : Nat) : (ki l js n).length ≤ n * 6400 := by
  induction n with
  | zero => simp [ki]
  | succ n ih => rw [ki_succ, List.length_append]; have := kk_len (js := js) h n l.length; omega
theorem fstB_at {l : List Bdy} {i : Nat} (h : i < l.length) : fstB l i = (l.take i).all fun x => !(x.i == l[i].i) := by unfold fstB; rw [List.getElem?_eq_getElem h]
theorem kab_at {l : List Bdy} {js : List Jnt} {i k : Nat} (h1 : i < l.length) (h2 : k < l.length) : kab l js i k = if okAB l js i k then kp l[i] l[k] l[i].fs.length else [] := by
  unfold kab; rw [List.getElem?_eq_getElem h1, List.getElem?_eq_getElem h2]
theorem body_sizeC (f : Bdy) : (Tryz.prog.info? 37).map (·.size) = some (bdc f).length := by rw [bdc_len]; exact body_size
theorem fix_size : (Tryz.prog.info? 57).map (·.size) = some 10 := by kernel_rfl
theorem fix_sizeC (f : Fxr) : (Tryz.prog.info? 57).map (·.size) = some (fxc f).length := fix_size
theorem bdc_all (f : Bdy) : (bdc f).all (·.oneCell') = true := List.all_eq_true.2 (bdc_one f)

set_option maxRecDepth 100000 in
set_option maxHeartbeats 64000000 in
theorem rfp_b (A A2 : Option Addr) (cap cap2 : Nat) (l : List Bdy) (js : List Jnt) (hl : l.length ≤ 100) (hf : ∀ x ∈ l, okF x) (hj : js.length ≤ 1000) (w : World) (h : Bods w A l) (hJ : Jnts w A2 js) : Calls Tryz.prog 13 #[.slice A l.length cap, .slice A2 js.length cap2] w fun e w' => (∃ v, e = .returned v ∧ w'.ownsRow w.heap.size 60 4 v (fpL l js).length (kv (fpL l js))) ∧ Below w.heap.size w w' := by
  have hf' : Hid (∀ x ∈ l, okF x) := hf
  have hki : Hid (∀ n, (ki l js n).length ≤ n * 6400) := ki_len hf hl
  have hkkl : Hid (∀ i n, (kk l js i n).length ≤ n * 64) := kk_len hf
  clear hf
  go_enter Tryz.func13, Tryz.ntmps13
  go_wp2_with fail
  go_loopw [5, 6] (fun c i wr => ∃ ii : Nat, ii ≤ l.length ∧ i = .int .i64 (ii : Int) ∧ wr.ownsRow w.heap.size 60 4 c (srK (ki l js ii)).length (kv (srK (ki l js ii))) ∧ Below w.heap.size w wr) (fun _ i _ => l.length - (intOf i).toNat)
  case atStart => exact ⟨0, by omega, rfl, World.ownsRow_nil _ _ _ _, Below.refl _ _⟩
  case round =>
    obtain ⟨ii, hil, rfl, hown, hb⟩ := hrel
    have hszR := hb.size
    by_cases hit : ii < l.length
    · have hitI : (ii : Int) < (l.length : Int) := by omega
      have hX1 := hki.out ii
      have hnx : Hid (ki l js (ii + 1) = ki l js ii ++ kk l js ii l.length) := ki_succ l js ii
      generalize ki l js ii = X0 at *
      have hown0 : wr.ownsRow w.heap.size 60 4 u5 (srK (X0 ++ kk l js ii 0)).length (kv (srK (X0 ++ kk l js ii 0))) := by simpa [kk] using hown
      clear hown
      go_wp2_with fail
      generalize wr = W1 at *
      go_loopw [5, 7] (fun c k wx => ∃ n : Nat, n ≤ l.length ∧ k = .int .i64 (n : Int) ∧ wx.ownsRow w.heap.size 60 4 c (srK (X0 ++ kk l js ii n)).length (kv (srK (X0 ++ kk l js ii n))) ∧ Below w.heap.size w wx) (fun _ k _ => l.length - (intOf k).toNat)
      case atStart => exact ⟨0, by omega, rfl, hown0, hb⟩
      case round =>
        obtain ⟨n, hnl, rfl, hownX, hbx⟩ := hrel
        have hszX := hbx.size
        clear hown0
        by_cases hkt : n < l.length
        · have hktI : (n : Int) < (l.length : Int) := by omega
          obtain ⟨b, off, rfl, hbl, hc0⟩ := bods_open h (by omega)
          obtain ⟨hqa0, hra⟩ := hc0 ii hit
          obtain ⟨hqb0, hrb⟩ := hc0 n hkt
          have ob : older b wr = true := (hra wr hbx).1
          have hqa : Hid (bdQ w (bdc l[ii]) l[ii]) := hqa0
          have hqb : Hid (bdQ w (bdc l[n]) l[n]) := hqb0
          have hX2 := hkkl.out ii n
          have hnx2 : Hid (X0 ++ kk l js ii (n + 1) = (X0 ++ kk l js ii n) ++ kab l js ii n) := by show _ = _; rw [kk_succ, List.append_assoc]
          have hkab : Hid (kab l js ii n = if okAB l js ii n then kp l[ii] l[n] l[ii].fs.length else []) := kab_at hit hkt
          have hO : Hid (okAB l js ii n = (decide (l[ii].i < l[n].i) && fstB l ii && fstB l n && (l[ii].k == 3 || l[n].k == 3) && !cnj js l[ii].i l[n].i)) := okAB_at (List.getElem?_eq_getElem hit) (List.getElem?_eq_getElem hkt)
          have hXl : (X0 ++ kk l js ii n).length ≤ 700000 := by rw [List.length_append]; omega
          obtain ⟨h8a, hpa⟩ := hf'.out _ (List.getElem_mem hit)
          obtain ⟨h8b, hpb⟩ := hf'.out _ (List.getElem_mem hkt)
          obtain ⟨D1, hD1⟩ : ∃ D, fstB l ii = D := ⟨_, rfl⟩
          obtain ⟨D2, hD2⟩ : ∃ D, fstB l n = D := ⟨_, rfl⟩
          obtain ⟨D3, hD3⟩ : ∃ D, cnj js l[ii].i l[n].i = D := ⟨_, rfl⟩
          have cF1 := fun w' hw' => rfst_b (some ⟨b, off, none⟩) cap l ii hit (by omega) w' hw' D1 (by rw [← fstB_at hit]; exact hD1)
          have cF2 := fun w' hw' => rfst_b (some ⟨b, off, none⟩) cap l n hkt (by omega) w' hw' D2 (by rw [← fstB_at hkt]; exact hD2)
          have cC := fun w' hw' => rcnj_b A2 cap2 js l[ii].i l[n].i (by omega) w' hw'
          rw [hD1, hD2, hD3] at hO
          rw [hD3] at cC
          clear hc0 hqa0 hqb0 hD1 hD2 hD3
          generalize kab l js ii n = KAB at *
          generalize hXX : X0 ++ kk l js ii n = XX at *
          clear hXX hX1 hX2
          generalize l[ii] = fa at *
          generalize l[n] = fb at *
          have hpa' : Hid (∀ x ∈ fa.fs, x.ps.length ≤ 1000) := fun x hx => Nat.le_trans (hpa x hx) (by decide)
          have hpb' : Hid (∀ x ∈ fb.fs, x.ps.length ≤ 1000) := fun x hx => Nat.le_trans (hpb x hx) (by decide)
          clear hpa hpb
          have hLa : ∀ w', Below wr.heap.size wr w' → w'.rangeAt b (off + ii * 20) (bdc fa) := fun w' hb' => (hra _ (Below.trans hbx (hb'.mono hszX))).2
          have hLb : ∀ w', Below wr.heap.size wr w' → w'.rangeAt b (off + n * 20) (bdc fb) := fun w' hb' => (hrb _ (Below.trans hbx (hb'.mono hszX))).2
          clear hra hrb
          go_wp2_with fail
          go_cut [8, 9] (fun va vb wx => ∃ b1 b2 : Nat, va = .pointer (some ⟨b1, 0, none⟩) ∧ vb = .pointer (some ⟨b2, 0, none⟩) ∧ wr.heap.size ≤ b1 ∧ wr.heap.size ≤ b2 ∧ blk wx b1 (bdc fa).toArray 37 ∧ blk wx b2 (bdc fb).toArray 37 ∧ Below wr.heap.size wr wx)
          case first =>
            refine wp_region_held_drew (S := fun w' => Below wr.heap.size wr w') (by kernel_rfl) bBel (fun hHeld => ?_)
            refine wpAnyH_take (i := 0) (v := ?_) rfl (by kernel_rfl) (by kernel_rfl) (by kernel_rfl) (fun _ _ _ h => h) (Or.inl ⟨by rfl, ?_⟩) (by assumption) ?_
            rotate_left
            · intro w0 hS0
              go_simp
              all_goals (with_reducible rfl)
            (try simp only [Act.put, List.setIfInBounds_toArray, List.set_cons_zero, List.set_cons_succ])
            refine wpAnyH_take (i := 1) (v := ?_) rfl (by kernel_rfl) (by kernel_rfl) (by kernel_rfl) (fun _ _ _ h => h) (Or.inl ⟨by rfl, ?_⟩) (by assumption) ?_
            rotate_left
            · intro w0 hS0
              go_simp
              all_goals (with_reducible rfl)
            (try simp only [Act.put, List.setIfInBounds_toArray, List.set_cons_zero, List.set_cons_succ])
            refine wpAnyH_take (i := 2) (v := ?_) rfl (by kernel_rfl) (by kernel_rfl) (by kernel_rfl) (fun _ _ _ h => h) (Or.inl ⟨by rfl, ?_⟩) (by assumption) ?_
            rotate_left
            · intro w0 hS0
              go_simp
              all_goals (with_reducible rfl)
            (try simp only [Act.put, List.setIfInBounds_toArray, List.set_cons_zero, List.set_cons_succ])
            refine wpAnyH_take (i := 3) rfl (by kernel_rfl) (by kernel_rfl) (by kernel_rfl) (fun _ _ _ h => h) (yieldsIf_load_mid (by rfl) 37 _ rfl b (off + ii * 20) rfl _ _ hLa Tryz.underlying37 rfl (by kernel_rfl)) (by assumption) ?_
            (try simp only [Act.put, List.setIfInBounds_toArray, List.set_cons_zero, List.set_cons_succ])
            refine wpAnyH_take (i := 4) (v := ?_) rfl (by kernel_rfl) (by kernel_rfl) (by kernel_rfl) (fun _ _ _ h => h) (Or.inl ⟨by rfl, ?_⟩) (by assumption) ?_
            rotate_left
            · intro w0 hS0
              go_simp
              all_goals (with_reducible rfl)
            (try simp only [Act.put, List.setIfInBounds_toArray, List.set_cons_zero, List.set_cons_succ])
            refine wpAnyH_take (i := 5) (v := ?_) rfl (by kernel_rfl) (by kernel_rfl) (by kernel_rfl) (fun _ _ _ h => h) (Or.inl ⟨by rfl, ?_⟩) (by assumption) ?_
            rotate_left
            · intro w0 hS0
              go_simp
              all_goals (with_reducible rfl)
            (try simp only [Act.put, List.setIfInBounds_toArray, List.set_cons_zero, List.set_cons_succ])
            refine wpAnyH_take (i := 6) (v := ?_) rfl (by kernel_rfl) (by kernel_rfl) (by kernel_rfl) (fun _ _ _ h => h) (Or.inl ⟨by rfl, ?_⟩) (by assumption) ?_
            rotate_left
            · intro w0 hS0
              go_simp
              all_goals (with_reducible rfl)
            (try simp only [Act.put, List.setIfInBounds_toArray, List.set_cons_zero, List.set_cons_succ])
            refine wpAnyH_take (i := 7) rfl (by kernel_rfl) (by kernel_rfl) (by kernel_rfl) (fun _ _ _ h => h) (yieldsIf_load_mid (by rfl) 37 _ rfl b (off + n * 20) rfl _ _ hLb Tryz.underlying37 rfl (by kernel_rfl)) (by assumption) ?_
            (try simp only [Act.put, List.setIfInBounds_toArray, List.set_cons_zero, List.set_cons_succ])
            refine wpAnyH_ready (rs := [8, 9]) (by kernel_rfl) (by simp) ?_
            refine AllReadyH.cons rfl (fun K hK => ?_) (AllReadyH.cons rfl (fun K hK => ?_) AllReadyH.nil)
            · go_simp
              refine hK.out _ _ bBel (fun hHeld => ?_)
              clear hK K
              (try simp only [Act.put, List.setIfInBounds_toArray, List.set_cons_zero, List.set_cons_succ])
              refine wpAnyH_ready (rs := [9]) (by kernel_rfl) (by simp) ?_
              refine AllReadyH.cons rfl (fun K hK => ?_) AllReadyH.nil
              go_simp
              refine hK.out _ _ bBel (fun hHeld => ?_)
              clear hK K
              (try simp only [Act.put, List.setIfInBounds_toArray, List.set_cons_zero, List.set_cons_succ])
              refine wpAnyH_ready (rs := [10]) (by kernel_rfl) (by simp) ?_
              refine AllReadyH.cons rfl (fun K hK => ?_) AllReadyH.nil
              rw [if_pos (by rfl)]
              refine wp_store_wide 37 _ _ rfl (wr.heap.size) (bdc fa) rfl rfl _ _ bBkn (by kernel_rfl) (by kernel_rfl) (by kernel_rfl) ?_
              intro W1 kW1 hbW1 koW1 hzW1
              show K (Act.put _ none undef) _
              have kO := koW1 (wr.heap.size + 1) _ _ (by omega) bBkn
              have hb1 := hbW1 wr.heap.size wr (by omega) hHeld
              refine hK.out _ _ hb1 (fun hHeld1 => ?_)
              clear hK K hbW1 koW1
              (try simp only [Act.put, List.setIfInBounds_toArray, List.set_cons_zero, List.set_cons_succ])
              refine wpAnyH_ready (rs := [11]) (by kernel_rfl) (by simp) ?_
              refine AllReadyH.cons rfl (fun K hK => ?_) AllReadyH.nil
              rw [if_pos (by rfl)]
              refine wp_store_wide 37 _ _ rfl (wr.heap.size + 1) (bdc fb) rfl rfl _ _ kO (by kernel_rfl) (by kernel_rfl) (by kernel_rfl) ?_
              intro W2 kW2 hbW2 koW2 hzW2
              show K (Act.put _ none undef) _
              have kO2 := koW2 (wr.heap.size) _ _ (by omega) kW1
              have hb2 := hbW2 wr.heap.size wr (by omega) hb1
              refine hK.out _ _ hb2 (fun hHeld2 => ?_)
              clear hK K hbW2 koW2
              (try simp only [Act.put, List.setIfInBounds_toArray, List.set_cons_zero, List.set_cons_succ])
              refine wpAnyH_done (by kernel_rfl) ?_ _
              go_wp2_with fail
              go_meet
              exact ⟨wr.heap.size, wr.heap.size + 1, rfl, rfl, by omega, by omega, kO2, kW2, hb2⟩
            · go_simp
              refine hK.out _ _ bBel (fun hHeld => ?_)
              clear hK K
              (try simp only [Act.put, List.setIfInBounds_toArray, List.set_cons_zero, List.set_cons_succ])
              refine wpAnyH_ready (rs := [8]) (by kernel_rfl) (by simp) ?_
              refine AllReadyH.cons rfl (fun K hK => ?_) AllReadyH.nil
              go_simp
              refine hK.out _ _ bBel (fun hHeld => ?_)
              clear hK K
              (try simp only [Act.put, List.setIfInBounds_toArray, List.set_cons_zero, List.set_cons_succ])
              refine wpAnyH_ready (rs := [10]) (by kernel_rfl) (by simp) ?_
              refine AllReadyH.cons rfl (fun K hK => ?_) AllReadyH.nil
              rw [if_pos (by rfl)]
              refine wp_store_wide 37 _ _ rfl (wr.heap.size + 1) (bdc fa) rfl rfl _ _ bBkn (by kernel_rfl) (by kernel_rfl) (by kernel_rfl) ?_
              intro W1 kW1 hbW1 koW1 hzW1
              show K (Act.put _ none undef) _
              have kO := koW1 (wr.heap.size) _ _ (by omega) bBkn
              have hb1 := hbW1 wr.heap.size wr (by omega) hHeld
              refine hK.out _ _ hb1 (fun hHeld1 => ?_)
              clear hK K hbW1 koW1
              (try simp only [Act.put, List.setIfInBounds_toArray, List.set_cons_zero, List.set_cons_succ])
              refine wpAnyH_ready (rs := [11]) (by kernel_rfl) (by simp) ?_
              refine AllReadyH.cons rfl (fun K hK => ?_) AllReadyH.nil
              rw [if_pos (by rfl)]
              refine wp_store_wide 37 _ _ rfl (wr.heap.size) (bdc fb) rfl rfl _ _ kO (by kernel_rfl) (by kernel_rfl) (by kernel_rfl) ?_
              intro W2 kW2 hbW2 koW2 hzW2
              show K (Act.put _ none undef) _
              have kO2 := koW2 (wr.heap.size + 1) _ _ (by omega) kW1
              have hb2 := hbW2 wr.heap.size wr (by omega) hb1
              refine hK.out _ _ hb2 (fun hHeld2 => ?_)
              clear hK K hbW2 koW2
              (try simp only [Act.put, List.setIfInBounds_toArray, List.set_cons_zero, List.set_cons_succ])
              refine wpAnyH_done (by kernel_rfl) ?_ _
              go_wp2_with fail
              go_meet
              exact ⟨wr.heap.size + 1, wr.heap.size, rfl, rfl, by omega, by omega, kO2, kW2, hb2⟩
          case rest =>
          obtain ⟨b1, b2, rfl, rfl, hb1, hb2, kA, kB, hbX⟩ := hcut
          generalize wc = X at *
          have hownY := owns_below hownX hbX
          have hwX : Below w.heap.size w X := Below.trans hbx (hbX.mono hszX)
          have hszX2 := hwX.size
          have a0 : X.cell? ⟨b1, 0, none⟩ = some (.int .i64 fa.i) := blk_cell kA 0
          have a1 : X.cell? ⟨b1, 1, none⟩ = some (.int .i64 fa.k) := blk_cell kA 1
          have b0 : X.cell? ⟨b2, 0, none⟩ = some (.int .i64 fb.i) := blk_cell kB 0
          have b1' : X.cell? ⟨b2, 1, none⟩ = some (.int .i64 fb.k) := blk_cell kB 1
          have oA : older b1 X = true := blk_older kA
          have oB : older b2 X = true := blk_older kB
          have hbodX := Bods.to h hwX
          have hJX := Jnts.to hJ hwX
          obtain ⟨O, hOO⟩ : ∃ O, okAB l js ii n = O := ⟨_, rfl⟩
          rw [hOO] at hO hkab
          clear hOO hLa hLb hownX hbX ob
          go_upto_region 9 with fail
          go_cut [66] (fun c wx => c = .bool (!O) ∧ Below X.heap.size X wx)
          case first =>
            generalize fa.i = ia at *
            generalize fb.i = ib at *
            generalize fa.k = ka at *
            generalize fb.k = kb at *
            by_cases c1 : ib ≤ ia
            · have g1 : decide (ib ≤ ia) = true := decide_eq_true c1
              have c1' : ¬ ia < ib := by omega
              obtain rfl : O = false := by rw [hO.out]; simp [c1']
              clear hO hkab hnx2
              go_wp2_with fail
              go_meet
              exact ⟨by rfl, bBel⟩
            have g1 : decide (ib ≤ ia) = false := decide_eq_false c1
            have c1' : ia < ib := by omega
            cases D1 with
            | false =>
              obtain rfl : O = false := by rw [hO.out]; simp [c1']
              clear hO hkab hnx2
              go_wp2_with (first | (go_at_call 31; with_reducible_and_instances refine Calls.mono (gw_at (cF1 _ (Bods.to hbodX bBel))) ?_; rintro e w1 ⟨rfl, q1, rfl⟩))
              go_meet
              exact ⟨by rfl, bBel⟩
            | true =>
              cases D2 with
              | false =>
                obtain rfl : O = false := by rw [hO.out]; simp [c1']
                clear hO hkab hnx2
                go_wp2_with (first | (go_at_call 31; with_reducible_and_instances refine Calls.mono (gw_at (cF1 _ (Bods.to hbodX bBel))) ?_; rintro e w1 ⟨rfl, q1, rfl⟩) | (go_at_call 31; with_reducible_and_instances refine Calls.mono (gw_at (cF2 _ (Bods.to hbodX bBel))) ?_; rintro e w1 ⟨rfl, q2, rfl⟩))
                go_meet
                exact ⟨by rfl, bBel⟩
              | true =>
                by_cases c2 : ka = 3
                · have g2 : (ka != 3) = false := by rw [bne_eq_false_iff_eq]; exact c2
                  have g2' : (ka == 3) = true := by rw [beq_iff_eq]; exact c2
                  cases D3 with
                  | true =>
                    obtain rfl : O = false := by rw [hO.out]; simp [c1', g2']
                    clear hO hkab hnx2
                    go_wp2_with (first | (go_at_call 31; with_reducible_and_instances refine Calls.mono (gw_at (cF1 _ (Bods.to hbodX bBel))) ?_; rintro e w1 ⟨rfl, q1, rfl⟩) | (go_at_call 31; with_reducible_and_instances refine Calls.mono (gw_at (cF2 _ (Bods.to hbodX bBel))) ?_; rintro e w1 ⟨rfl, q2, rfl⟩) | (go_at_call 21; with_reducible_and_instances refine Calls.mono (gw_at (cC _ (Jnts.to hJX bBel))) ?_; rintro e w1 ⟨rfl, q3, rfl⟩))
                    go_meet
                    exact ⟨by rfl, bBel⟩
                  | false =>
                    obtain rfl : O = true := by rw [hO.out]; simp [c1', g2']
                    clear hO hkab hnx2
                    go_wp2_with (first | (go_at_call 31; with_reducible_and_instances refine Calls.mono (gw_at (cF1 _ (Bods.to hbodX bBel))) ?_; rintro e w1 ⟨rfl, q1, rfl⟩) | (go_at_call 31; with_reducible_and_instances refine Calls.mono (gw_at (cF2 _ (Bods.to hbodX bBel))) ?_; rintro e w1 ⟨rfl, q2, rfl⟩) | (go_at_call 21; with_reducible_and_instances refine Calls.mono (gw_at (cC _ (Jnts.to hJX bBel))) ?_; rintro e w1 ⟨rfl, q3, rfl⟩))
                    go_meet
                    exact ⟨by rfl, bBel⟩
                have g2 : (ka != 3) = true := by rw [bne_iff_ne]; exact c2
                have g2' : (ka == 3) = false := by rw [beq_eq_false_iff_ne]; exact c2
                by_cases c3 : kb = 3
                · have g3 : (kb != 3) = false := by rw [bne_eq_false_iff_eq]; exact c3
                  have g3' : (kb == 3) = true := by rw [beq_iff_eq]; exact c3
                  cases D3 with
                  | true =>
                    obtain rfl : O = false := by rw [hO.out]; simp [c1', g2', g3']
                    clear hO hkab hnx2
                    go_wp2_with (first | (go_at_call 31; with_reducible_and_instances refine Calls.mono (gw_at (cF1 _ (Bods.to hbodX bBel))) ?_; rintro e w1 ⟨rfl, q1, rfl⟩) | (go_at_call 31; with_reducible_and_instances refine Calls.mono (gw_at (cF2 _ (Bods.to hbodX bBel))) ?_; rintro e w1 ⟨rfl, q2, rfl⟩) | (go_at_call 21; with_reducible_and_instances refine Calls.mono (gw_at (cC _ (Jnts.to hJX bBel))) ?_; rintro e w1 ⟨rfl, q3, rfl⟩))
                    go_meet
                    exact ⟨by rfl, bBel⟩
                  | false =>
                    obtain rfl : O = true := by rw [hO.out]; simp [c1', g2', g3']
                    clear hO hkab hnx2
                    go_wp2_with (first | (go_at_call 31; with_reducible_and_instances refine Calls.mono (gw_at (cF1 _ (Bods.to hbodX bBel))) ?_; rintro e w1 ⟨rfl, q1, rfl⟩) | (go_at_call 31; with_reducible_and_instances refine Calls.mono (gw_at (cF2 _ (Bods.to hbodX bBel))) ?_; rintro e w1 ⟨rfl, q2, rfl⟩) | (go_at_call 21; with_reducible_and_instances refine Calls.mono (gw_at (cC _ (Jnts.to hJX bBel))) ?_; rintro e w1 ⟨rfl, q3, rfl⟩))
                    go_meet
                    exact ⟨by rfl, bBel⟩
                have g3 : (kb != 3) = true := by rw [bne_iff_ne]; exact c3
                have g3' : (kb == 3) = false := by rw [beq_eq_false_iff_ne]; exact c3
                obtain rfl : O = false := by rw [hO.out]; simp [c1', g2', g3']
                clear hO hkab hnx2
                go_wp2_with (first | (go_at_call 31; with_reducible_and_instances refine Calls.mono (gw_at (cF1 _ (Bods.to hbodX bBel))) ?_; rintro e w1 ⟨rfl, q1, rfl⟩) | (go_at_call 31; with_reducible_and_instances refine Calls.mono (gw_at (cF2 _ (Bods.to hbodX bBel))) ?_; rintro e w1 ⟨rfl, q2, rfl⟩))
                go_meet
                exact ⟨by rfl, bBel⟩
          case rest =>
          obtain ⟨rfl, hbY⟩ := hcut
          generalize wc = Y at *
          have hownZ := owns_below hownY hbY
          have hwY : Below w.heap.size w Y := Below.trans hwX (hbY.mono hszX2)
          have kA2 := blk_below hbY kA
          have kB2 := blk_below hbY kB
          have hszY := hwY.size
          clear a0 a1 b0 b1' oA oB cF1 cF2 cC hbodX hJX hownY kA kB hbY hO
          cases O with
          | false =>
            have hst : Hid (X0 ++ kk l js ii (n + 1) = XX) := by show _ = _; rw [hnx2.out, hkab.out]; simp
            clear hnx2 hkab
            go_wp2_with fail
            refine ⟨⟨n + 1, by omega, by go_num, ?_, hwY⟩, by (try go_num); simp [intOf]; (try omega)⟩
            rw [hst.out]; exact hownZ
          | true =>
            have hst : Hid (X0 ++ kk l js ii (n + 1) = XX ++ kp fa fb fa.fs.length) := by show _ = _; rw [hnx2.out, hkab.out]; simp
            have hown0 : Y.ownsRow w.heap.size 60 4 u5 (srK (XX ++ kp fa fb 0)).length (kv (srK (XX ++ kp fa fb 0))) := by simpa [kp] using hownZ
            clear hnx2 hkab hownZ
            go_wp2_with fail
            go_loopw [5, 10] (fun c p wx => ∃ m : Nat, m ≤ fa.fs.length ∧ p = .int .i64 (m : Int) ∧ wx.ownsRow w.heap.size 60 4 c (srK (XX ++ kp fa fb m)).length (kv (srK (XX ++ kp fa fb m))) ∧ Below Y.heap.size Y wx) (fun _ p _ => fa.fs.length - (intOf p).toNat)
            case atStart => exact ⟨0, by omega, rfl, hown0, Below.refl _ _⟩
            case round =>
              obtain ⟨m, hm, rfl, hownM, hbM⟩ := hrel
              have hszM := hbM.size
              clear hown0
              have kA3 := blk_below hbM kA2
              have a19 : wr.cell? ⟨b1, 19, none⟩ = some (.slice fa.A fa.fs.length fa.cap) := blk_cell kA3 19
              have oA : older b1 wr = true := blk_older kA3
              by_cases hmt : m < fa.fs.length
              · have hmtI : (m : Int) < (fa.fs.length : Int) := by omega
                have hnx3 : Hid (XX ++ kp fa fb (m + 1) = (XX ++ kp fa fb m) ++ kq fa fb m fb.fs.length) := by show _ = _; rw [kp_succ, List.append_assoc]
                have hkpl := kp_len fa fb m h8b
                have hXm : (XX ++ kp fa fb m).length ≤ 800000 := by rw [List.length_append]; omega
                generalize hZZ : XX ++ kp fa fb m = ZZ at *
                clear hZZ hkpl
                have hown0 : wr.ownsRow w.heap.size 60 4 u5 (srK (ZZ ++ kq fa fb m 0)).length (kv (srK (ZZ ++ kq fa fb m 0))) := by simpa [kq] using hownM
                clear hownM
                go_wp2_with fail
                generalize wr = W3 at *
                clear a19 oA
                go_loopw [5, 11] (fun c q wx => ∃ d : Nat, d ≤ fb.fs.length ∧ q = .int .i64 (d : Int) ∧ wx.ownsRow w.heap.size 60 4 c (srK (ZZ ++ kq fa fb m d)).length (kv (srK (ZZ ++ kq fa fb m d))) ∧ Below Y.heap.size Y wx) (fun _ q _ => fb.fs.length - (intOf q).toNat)
                case atStart => exact ⟨0, by omega, rfl, hown0, hbM⟩
                case round =>
                  obtain ⟨d, hd, rfl, hownD, hbD⟩ := hrel
                  have hszD := hbD.size
                  clear hown0
                  have kA4 := blk_below hbD kA2
                  have kB4 := blk_below hbD kB2
                  have a0 : wr.cell? ⟨b1, 0, none⟩ = some (.int .i64 fa.i) := blk_cell kA4 0
                  have b0 : wr.cell? ⟨b2, 0, none⟩ = some (.int .i64 fb.i) := blk_cell kB4 0
                  have a19 : wr.cell? ⟨b1, 19, none⟩ = some (.slice fa.A fa.fs.length fa.cap) := blk_cell kA4 19
                  have b19 : wr.cell? ⟨b2, 19, none⟩ = some (.slice fb.A fb.fs.length fb.cap) := blk_cell kB4 19
                  have oA : older b1 wr = true := blk_older kA4
                  have oB : older b2 wr = true := blk_older kB4
                  by_cases hdt : d < fb.fs.length
                  · have hdtI : (d : Int) < (fb.fs.length : Int) := by omega
                    have hwD : Below w.heap.size w wr := Below.trans hwY (hbD.mono hszY)
                    have hszwD := hwD.size
                    obtain ⟨c1, o1, hA1, -, hr1⟩ := fxs_at hqa.out.2.2.1 hmt
                    obtain ⟨c2, o2, hA2, -, hr2⟩ := fxs_at hqb.out.2.2.1 hdt
                    have og1 := (hr1 _ hwD).1
                    have og2 := (hr2 _ hwD).1
                    rw [hA1] at a19
                    rw [hA2] at b19
                    have hR1 : ∀ w', (∃ q, w' = gw wr q) → w'.rangeAt c1 (o1 + m * 10) (fxc fa.fs[m]) := fun w' h' => by
                      obtain ⟨q, rfl⟩ := h'
                      exact (hr1 _ (Below.trans hwD ((below_gw wr q).mono hszwD))).2
                    have hR2 : ∀ w', (∃ q, w' = gw wr q) → w'.rangeAt c2 (o2 + d * 10) (fxc fb.fs[d]) := fun w' h' => by
                      obtain ⟨q, rfl⟩ := h'
                      exact (hr2 _ (Below.trans hwD ((below_gw wr q).mono hszwD))).2
                    have hRA : ∀ w', (∃ q, w' = gw wr q) → w'.rangeAt b1 0 (bdc fa) := fun w' h' => by
                      obtain ⟨q, rfl⟩ := h'
                      exact rng_blk22 (blk_gw kA4)
                    have hRB : ∀ w', (∃ q, w' = gw wr q) → w'.rangeAt b2 0 (bdc fb) := fun w' h' => by
                      obtain ⟨q, rfl⟩ := h'
                      exact rng_blk22 (blk_gw kB4)
                    have hnx4 : Hid (ZZ ++ kq fa fb m (d + 1) = (ZZ ++ kq fa fb m d) ++ if hitF fa fb m d then [kyOf fa fb m d] else []) := by show _ = _; rw [kq_succ, List.append_assoc]
                    have hHit : Hid (hitF fa fb m d = (shc fa.fs[m].grp fa.fs[m].cat fa.fs[m].msk fb.fs[d].grp fb.fs[d].cat fb.fs[d].msk && Bx.ovl (fbx fa fa.fs[m]) (fbx fb fb.fs[d]))) := hitF_at hmt hdt
                    have hkql := kq_len fa fb m d
                    have hXd : (ZZ ++ kq fa fb m d).length ≤ 900000 := by rw [List.length_append]; omega
                    have cS := fun w' => rshc_b fa.fs[m] fb.fs[d] w'
                    have cB1 := fun w' hw' => rbox_b fa m hmt hpa'.out w' hw'
                    have cB2 := fun w' hw' => rbox_b fb d hdt hpb'.out w' hw'
                    have hqaw : ∀ w', Below w.heap.size w w' → bdQ w' (bdc fa) fa := fun w' h' => bdQ.to hqa.out h'
                    have hqbw : ∀ w', Below w.heap.size w w' → bdQ w' (bdc fb) fb := fun w' h' => bdQ.to hqb.out h'
                    have cO := fun w' => rxovl_b (fbx fa fa.fs[m]).x0 (fbx fa fa.fs[m]).y0 (fbx fa fa.fs[m]).x1 (fbx fa fa.fs[m]).y1 (fbx fb fb.fs[d]).x0 (fbx fb fb.fs[d]).y0 (fbx fb fb.fs[d]).x1 (fbx fb fb.fs[d]).y1 w'
                    have ho8 : ovl8 (fbx fa fa.fs[m]).x0 (fbx fa fa.fs[m]).y0 (fbx fa fa.fs[m]).x1 (fbx fa fa.fs[m]).y1 (fbx fb fb.fs[d]).x0 (fbx fb fb.fs[d]).y0 (fbx fb fb.fs[d]).x1 (fbx fb fb.fs[d]).y1 = Bx.ovl (fbx fa fa.fs[m]) (fbx fb fb.fs[d]) := rfl
                    rw [ho8] at cO
                    have sA := body_sizeC fa
                    have sB := body_sizeC fb
                    have s1 := fix_sizeC fa.fs[m]
                    have s2 := fix_sizeC fb.fs[d]
                    have hrl : (srK (ZZ ++ kq fa fb m d)).length ≤ 900000 := by rw [srK_len]; exact hXd
                    have hsn : Hid (hitF fa fb m d = true → srK (ZZ ++ kq fa fb m (d + 1)) = insK (srK (ZZ ++ kq fa fb m d)) ⟨fa.i, m, fb.i, d⟩) := fun e => by rw [hnx4.out, if_pos e, srK_snoc]; rfl
                    have hsf : Hid (hitF fa fb m d = false → srK (ZZ ++ kq fa fb m (d + 1)) = srK (ZZ ++ kq fa fb m d)) := fun e => by rw [hnx4.out, if_neg (by rw [e]; simp)]; simp
                    clear hnx4 ho8 hkql hXd hr1 hr2
                    obtain ⟨R2, hRR⟩ : ∃ R2, Hid (srK (ZZ ++ kq fa fb m (d + 1)) = R2) := ⟨_, rfl⟩
                    rw [hRR.out] at hsn hsf
                    generalize srK (ZZ ++ kq fa fb m d) = R1 at *
                    generalize hitF fa fb m d = HH at *
                    generalize Bx.ovl (fbx fa fa.fs[m]) (fbx fb fb.fs[d]) = OV at *
                    generalize fbx fa fa.fs[m] = Z1 at *
                    generalize fbx fb fb.fs[d] = Z2 at *
                    generalize shc fa.fs[m].grp fa.fs[m].cat fa.fs[m].msk fb.fs[d].grp fb.fs[d].cat fb.fs[d].msk = SH at *
                    generalize fxc fa.fs[m] = F1 at *
                    generalize fxc fb.fs[d] = F2 at *
                    go_wp2_with fail
                    refine wp_region_gw (by kernel_rfl) (by kernel_rfl) ?_
                    repeat (go_big_quiet_step (fail))
                    refine wpQuiet_load22 (by rfl) 57 _ rfl c1 (o1 + m * 10) rfl F1 _ hR1 Tryz.underlying57 rfl s1 ?_
                    simp only [Act.put, List.setIfInBounds_toArray, List.set_cons_zero, List.set_cons_succ]
                    repeat (go_big_quiet_step (fail))
                    refine wpQuiet_load22 (by rfl) 57 _ rfl c2 (o2 + d * 10) rfl F2 _ hR2 Tryz.underlying57 rfl s2 ?_
                    simp only [Act.put, List.setIfInBounds_toArray, List.set_cons_zero, List.set_cons_succ]
                    cases SH with
                    | false =>
                      have hH : Hid (HH = false) := by show _ = _; rw [hHit.out]; rfl
                      have hst4 : Hid (R2 = R1) := hsf.out hH.out
                      clear hsn hsf hHit hH
                      repeat (go_big_quiet_step (first | (go_at_call 20; with_reducible_and_instances exact gw_call (cS _))))
                      refine wpQuiet_nil ?_
                      intro w1 hw1
                      obtain ⟨q, rfl⟩ := hw1
                      go_wp2_with fail
                      refine ⟨⟨d + 1, by omega, by go_num, ?_, bBel⟩, by (try go_num); simp [intOf]; (try omega)⟩
                      rw [hRR.out, hst4.out]; exact owns_below hownD bBel
                    | true =>
                      repeat (go_big_quiet_step (first | (go_at_call 20; with_reducible_and_instances exact gw_call (cS _))))
                      refine wpQuiet_load22 (by rfl) 37 _ rfl b1 0 rfl (bdc fa) _ hRA Tryz.underlying37 rfl sA ?_
                      simp only [Act.put, List.setIfInBounds_toArray, List.set_cons_zero, List.set_cons_succ]
                      repeat (go_big_quiet_step (first | (go_at_call 33; with_reducible_and_instances exact gw_call (cB1 _ (hqaw _ bBel)))))
                      refine wpQuiet_load22 (by rfl) 37 _ rfl b2 0 rfl (bdc fb) _ hRB Tryz.underlying37 rfl sB ?_
                      simp only [Act.put, List.setIfInBounds_toArray, List.set_cons_zero, List.set_cons_succ]
                      repeat (go_big_quiet_step (first | (go_at_call 33; with_reducible_and_instances exact gw_call (cB2 _ (hqbw _ bBel))) | (go_at_call 32; with_reducible_and_instances exact gw_call (cO _))))
                      refine wpQuiet_nil ?_
                      intro w1 hw1
                      obtain ⟨q, rfl⟩ := hw1
                      cases OV with
                      | false =>
                        have hH : Hid (HH = false) := by show _ = _; rw [hHit.out]; rfl
                        have hst4 : Hid (R2 = R1) := hsf.out hH.out
                        clear hsn hsf hHit hH
                        go_wp2_with fail
                        refine ⟨⟨d + 1, by omega, by go_num, ?_, bBel⟩, by (try go_num); simp [intOf]; (try omega)⟩
                        rw [hRR.out, hst4.out]; exact owns_below hownD bBel
                      | true =>
                        have hH : Hid (HH = true) := by show _ = _; rw [hHit.out]; rfl
                        have hst4 : Hid (R2 = insK R1 ⟨fa.i, m, fb.i, d⟩) := hsn.out hH.out
                        clear hsn hsf hHit hH
                        have hownG : (gw wr q).ownsRow w.heap.size 60 4 u5 R1.length (kv R1) := owns_below hownD bBel
                        have hbG : Below wr.heap.size wr (gw wr q) := below_gw wr q
                        have hszG := hbG.size
                        have cI := rins22_b w.heap.size u5 R1 fa.i m fb.i d (by omega) (gw wr q) (by omega) hownG
                        generalize fa.i = ia at *
                        generalize fb.i = ib at *
                        go_wp2_with (go_at_call 34; with_reducible_and_instances refine Calls.mono cI ?_; rintro e w2 ⟨⟨v2, rfl, hown2⟩, hb2⟩)
                        refine ⟨?_, by (try go_num); simp [intOf]; (try omega)⟩
                        simp only [hA1, Bool.not_true]
                        iterate 38 apply Exists.intro
                        refine And.intro ?_ rfl
                        exact ⟨d + 1, by omega, by go_num, by rw [hRR.out, hst4.out]; exact owns_base hown2 (by omega), Below.trans hbD ((Below.trans hbG (hb2.mono hszG)).mono hszD)⟩
                  · obtain rfl : d = fb.fs.length := by omega
                    go_wp2_with fail
                    refine ⟨⟨m + 1, by omega, by go_num, ?_, hbD⟩, by (try go_num); simp [intOf]; (try omega)⟩
                    rw [hnx3.out]; exact hownD
              · obtain rfl : m = fa.fs.length := by omega
                go_wp2_with fail
                refine ⟨⟨n + 1, by omega, by go_num, ?_, Below.trans hwY (hbM.mono hszY)⟩, by (try go_num); simp [intOf]; (try omega)⟩
                rw [hst.out]; exact hownM
        · obtain rfl : n = l.length := by omega
          go_wp2_with fail
          refine ⟨⟨ii + 1, by omega, by go_num, ?_, hbx⟩, by (try go_num); simp [intOf]; (try omega)⟩
          rw [hnx.out]; exact hownX
    · obtain rfl : ii = l.length := by omega
      have hfp : srK (ki l js l.length) = fpL l js := rfl
      rw [hfp] at hown
      go_wp2_with fail
      go_ret
      exact ⟨⟨_, rfl, hown⟩, hb⟩

end Go.Proofs.YtaahgblkmajceaaGreat
