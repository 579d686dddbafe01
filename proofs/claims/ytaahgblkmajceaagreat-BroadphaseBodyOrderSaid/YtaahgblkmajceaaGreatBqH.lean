/- Chapter 22: the program's FindPairs. -/
import Derived.Test.YtaahgblkmajceaaGreatBqG
set_option linter.unusedVariables false
set_option linter.unusedSimpArgs false
namespace Go.Proofs.YtaahgblkmajceaaGreat
open Go.RowKit Fx Go.Maps

theorem info_key : (Tryz.prog.info? 60).map (fun i => (i.zero, i.size, i.bytes)) = some (some (.agg #[.int .i64 0, .int .i64 0, .int .i64 0, .int .i64 0]), 4, 32) := by kernel_rfl
theorem gkX_len (js : List Jnt) (a b : Pxy) : (gkX js a b).length ≤ 1 := by unfold gkX; split <;> simp
theorem gk_len (P : List Pxy) (js : List Jnt) (x : Int × Int) : (gk P js x).length ≤ 1 := by
  unfold gk; split
  · exact gkX_len _ _ _
  · simp
theorem rsL_len (P : List Pxy) (js : List Jnt) : ∀ l : List (Int × Int), (rsL P js l).length ≤ l.length
  | [] => by simp [rsL]
  | x :: l => by
    have h1 := gk_len P js x
    have h2 := rsL_len P js l
    have e : rsL P js (x :: l) = gk P js x ++ rsL P js l := by simp [rsL]
    rw [e, List.length_append, List.length_cons]; omega
theorem prP_len22 (E : Bxs) (h : E.length ≤ 800) : (prP (cnt E)).length ≤ 640000 := by
  have h1 := (prA_perm (cnt_dst E)).length_eq
  rw [← enu_all] at h1
  have h2 := enu_len (cnt E) (cnt E).length
  have h3 := cnt_len E
  have h4 : (cnt E).length * (cnt E).length ≤ 800 * 800 := Nat.mul_le_mul (by omega) (by omega)
  omega
theorem ens_keys {P : List Pxy} (h : P.length ≤ 800) : ∀ e ∈ ens P, i64k e.1 := fun e he => by
  obtain ⟨i, x, h1, rfl⟩ := ens_mem.1 he
  have := (List.getElem?_eq_some_iff.1 h1).1
  unfold i64k; dsimp only; omega
theorem gk_at {P : List Pxy} {js : List Jnt} {i j : Nat} {a b : Pxy} (h1 : P[i]? = some a) (h2 : P[j]? = some b) : gk P js ((i : Int), (j : Int)) = gkX js a b := by
  unfold gk
  simp only [Int.toNat_natCast]
  rw [h1, h2]

set_option maxRecDepth 100000 in
set_option maxHeartbeats 32000000 in
theorem fp_b (A A2 : Option Addr) (cap cap2 : Nat) (l : List Bdy) (js : List Jnt) (hl : l.length ≤ 100) (hok : ∀ x ∈ l, okF x) (hj : js.length ≤ 1000) (w : World) (h : Bods w A l) (hJ : Jnts w A2 js) : Calls Tryz.prog 12 #[.slice A l.length cap, .slice A2 js.length cap2] w fun e w' => (∃ v, e = .returned v ∧ w'.ownsRow w.heap.size 60 4 v (fpL l js).length (kv (fpL l js))) ∧ Below w.heap.size w w' := by
  have hkk : Hid (∀ x ∈ l, i64k x.i) := fun x hx => (bods_mem h x hx).2.1
  have hok' : Hid (∀ x ∈ ascB l, okF x) := fun x hx => hok x (ascB_sub hx)
  have hbd : Hid (∀ x ∈ ascB l, bdQ w (bdc x) x) := fun x hx => bods_mem h x (ascB_sub hx)
  have hPl : (pxs (ascB l)).length ≤ 800 := by
    have h1 := pxs_len (ascB l) (fun b hb => (hok'.out b hb).1)
    have h2 := ascB_len l
    omega
  have hPm : Hid (∀ x ∈ pxs (ascB l), x.1 ∈ ascB l ∧ x.2 < x.1.fs.length) := fun x hx => pxs_mem.1 hx
  have hfp : Hid (rsL (pxs (ascB l)) js (prP (cnt (ens (pxs (ascB l))))) = fpL l js) := rs_fp l js
  have hpe : Hid (∀ k (h : k < (prP (cnt (ens (pxs (ascB l))))).length), ∃ (i j : Nat) (a b : Pxy), (pxs (ascB l))[i]? = some a ∧ (pxs (ascB l))[j]? = some b ∧ (prP (cnt (ens (pxs (ascB l)))))[k] = ((i : Int), (j : Int))) := fun k hk => by
    obtain ⟨i, j, a, b, h1, h2, _, _, h3⟩ := prE_mem.1 (List.getElem_mem hk)
    exact ⟨i, j, a, b, h1, h2, h3⟩
  have hsl := ascB_len l
  obtain ⟨i0, hi, hz0, hz1, hz2⟩ := info_parts info_key
  clear hok
  go_enter Tryz.func12, Tryz.ntmps12
  go_upto_region 2 with (go_at_call 27; with_reducible_and_instances refine Calls.mono (fbid_b A cap l (by omega) w h) ?_; rintro e W1 ⟨⟨b, rfl, hbw, hM⟩, hb1⟩)
  have hszW1 := hb1.size
  go_upto_region 3 with (first | (go_at_call 28; with_reducible_and_instances refine Calls.mono (asc_b b l (by omega) hkk.out W1 hM) ?_; rintro e W2 ⟨⟨v2, rfl, ho2⟩, hb2⟩; have hbw2 : Below w.heap.size w W2 := Below.trans hb1 (hb2.mono hszW1); obtain ⟨AS, capS, rfl, -, hcS, hmS, hBS⟩ := owns_bods ho2 (fun f hf => (hbd.out f hf).to hbw2); clear ho2) | (go_at_call 14; with_reducible_and_instances refine Calls.mono (prox_b AS capS (ascB l) (by omega) hok'.out W2 hBS) ?_; rintro e W3 ⟨⟨v3, rfl, ho3⟩, hb3⟩; obtain ⟨AP, capP, rfl, -, hcP, hmP, hPX⟩ := owns_pxs ho3; clear ho3))
  have hbw3 : Below w.heap.size w W3 := Below.trans hbw2 (hb3.mono hbw2.size)
  have hM3 : MBod l W3 b (getB (fsB l)) (fsB l).length := (hM.to hb2).to hb3
  clear hM hBS hb2 hb3 hbw2 hcS hmS
  have hgA : Hid (∀ x ∈ ascB l, getB (fsB l) x.i = some x) := fun x hx => getB_asc l hx
  have hiA : Hid (∀ x ∈ ascB l, i64k x.i) := fun x hx => hkk.out x (ascB_sub hx)
  clear hb1 hszW1 hkk
  generalize hP : pxs (ascB l) = P at *
  clear hP
  generalize ascB l = S at *
  have hszW3 := hbw3.size
  have hel : (ens P).length ≤ 800 := by rw [ens_len]; exact hPl
  go_upto_region 5 with (first | (go_at_call 29; with_reducible_and_instances refine Calls.mono (ent_b AP capP P (by omega) W3 hPX) ?_; rintro e W4 ⟨⟨v4, rfl, ho4⟩, hb4⟩; obtain ⟨AE, capE, rfl, -, hcE, hmE, hEn⟩ := owns_ents ho4; clear ho4) | (go_at_call 15; with_reducible_and_instances refine Calls.mono (pairs21_b AE capE (ens P) (by omega) (ens_keys hPl) W4 hEn) ?_; rintro e W5 ⟨⟨v5, rfl, ho5⟩, hb5⟩; have hlen : ∀ ty W', (Builtin.len_ #[47] ty #[v5]).run Tryz.prog W' = .ok (.int .i64 ((prP (cnt (ens P))).length : Int)) W' := fun ty W' => row_len u_pairs ho5 ty W'))
  have hb35 : Below W3.heap.size W3 W5 := Below.trans hb4 (hb5.mono hb4.size)
  have hbw5 : Below w.heap.size w W5 := Below.trans hbw3 (hb35.mono hszW3)
  have hM5 : MBod l W5 b (getB (fsB l)) (fsB l).length := hM3.to hb35
  have hPX5 := hPX.to hb35
  have hprl := prP_len22 (ens P) hel
  have hixH := show Hid _ from fun k hk => pairs_ix ho5 (k := k) hk
  clear hlen hb4 hb5 hEn hcE hmE hM3 hPX ho5 hel hb35 hszW3
  generalize prP (cnt (ens P)) = PR at *
  have hszW5 := hbw5.size
  go_loopw [7, 21] (fun c i wr => ∃ k : Nat, k ≤ PR.length ∧ i = .int .i64 (k : Int) ∧ wr.ownsRow W5.heap.size 60 4 c (rsL P js (PR.take k)).length (kv (rsL P js (PR.take k))) ∧ Below W5.heap.size W5 wr) (fun _ i _ => PR.length - (intOf i).toNat)
  case atStart => exact ⟨0, by omega, rfl, World.ownsRow_nil _ _ _ _, Below.refl _ _⟩
  case round =>
    obtain ⟨k, hk, rfl, hown, hbR⟩ := hrel
    have hszR := hbR.size
    by_cases hlt : k < PR.length
    · obtain ⟨i, j, a, bq, e1, e2, e3⟩ := hpe.out k hlt
      obtain ⟨g, -, hixk, hcell⟩ := hixH.out k hlt
      obtain ⟨og, d0, d1⟩ := hcell wr hbR
      have hix2 : (Instr.indexAt 47 v5 (.int .i64 (k : Int))).run Tryz.prog wr = .ok (.pointer (some ⟨g, k * 2, none⟩)) wr := hixk wr
      have hst : Hid (rsL P js (PR.take (k + 1)) = rsL P js (PR.take k) ++ gkX js a bq) := by show _ = _; rw [rsL_take hlt, e3, gk_at e1 e2]
      have hrl := rsL_len P js (PR.take k)
      rw [List.length_take] at hrl
      rw [e3] at d0 d1
      dsimp only at d0 d1
      have hiP := (List.getElem?_eq_some_iff.1 e1).1
      have hjP := (List.getElem?_eq_some_iff.1 e2).1
      obtain ⟨bp, offp, rfl, hbp, hcp⟩ := pxs_open hPX5 (by omega)
      have hci := fun w' hw' => hcp i hiP w' hw'
      have hcj := fun w' hw' => hcp j hjP w' hw'
      have ea : P[i] = a := (List.getElem?_eq_some_iff.1 e1).2
      have eb : P[j] = bq := (List.getElem?_eq_some_iff.1 e2).2
      rw [ea] at hci
      rw [eb] at hcj
      obtain ⟨ma, pa⟩ := hPm.out a (List.mem_of_getElem? e1)
      obtain ⟨mb, pb⟩ := hPm.out bq (List.mem_of_getElem? e2)
      clear hcp hixk hcell e1 e2 e3 ea eb
      obtain ⟨ba, p⟩ := a
      obtain ⟨bb, q⟩ := bq
      dsimp only at hci hcj ma mb pa pb
      have hga := hgA.out ba ma
      have hgb := hgA.out bb mb
      have hia := hiA.out ba ma
      have hib := hiA.out bb mb
      have h8a := (hok'.out ba ma).1
      have h8b := (hok'.out bb mb).1
      have hqa := show Hid _ from hbd.out ba ma
      have hqb := show Hid _ from hbd.out bb mb
      have hiPl : (i : Int) < (P.length : Int) := by omega
      have hjPl : (j : Int) < (P.length : Int) := by omega
      obtain ⟨x, hx⟩ : ∃ x, pbx (ba, p) = x := ⟨_, rfl⟩
      obtain ⟨y, hy⟩ : ∃ y, pbx (bb, q) = y := ⟨_, rfl⟩
      rw [hx] at hci
      rw [hy] at hcj
      clear hx hy ma mb
      obtain ⟨x0, x1, x2, x3⟩ := x
      obtain ⟨y0, y1, y2, y3⟩ := y
      dsimp only at hci hcj
      generalize hT : rsL P js (PR.take k) = T at *
      clear hT
      go_upto_region 7 with fail
      refine wp_named ?_
      intro V hV
      have kJ : blk V wr.heap.size #[.int .i64 (i : Int), .int .i64 (j : Int)] 49 := by rw [hV]; exact (by apply blk_of; (repeat (first | with_reducible apply blk_set | with_reducible apply blk_gw | with_reducible apply blk_drew | with_reducible exact blk_new _ _ _ | with_reducible apply blk_alloc)); (first | rfl | simp))
      have hbRV : Below wr.heap.size wr V := by rw [hV]; exact bBel
      clear hV d0 d1 og hix2
      have hlV : wr.heap.size < V.heap.size := blk_lt kJ
      have hownV := owns_below hown hbRV
      have hb5V : Below W5.heap.size W5 V := Below.trans hbR (hbRV.mono hszR)
      have hsz5V := hb5V.size
      clear hown hbRV
      have okJ := blk_older kJ
      have ckJ_0 : _ = some _ := blk_cell kJ 0
      have ckJ_1 : _ = some _ := blk_cell kJ 1
      have fkJ_0 := blk_free kJ 0
      have fkJ_1 := blk_free kJ 1
      have hcellB : ∀ w', Below V.heap.size V w' → Below V.heap.size V w' ∧ (w'.cell? ⟨wr.heap.size, 0, none⟩ = some (.int .i64 (i : Int)) ∧ w'.cell? ⟨wr.heap.size, 1, none⟩ = some (.int .i64 (j : Int))) ∧ (w'.cell? ⟨bp, offp + i * 6, none⟩ = some (.int .i64 ba.i) ∧ w'.cell? ⟨bp, offp + i * 6 + 1, none⟩ = some (.int .i64 (p : Int)) ∧ w'.cell? ⟨bp, offp + i * 6 + 2, none⟩ = some (.int .i64 x0) ∧ w'.cell? ⟨bp, offp + i * 6 + 3, none⟩ = some (.int .i64 x1) ∧ w'.cell? ⟨bp, offp + i * 6 + 4, none⟩ = some (.int .i64 x2) ∧ w'.cell? ⟨bp, offp + i * 6 + 5, none⟩ = some (.int .i64 x3)) ∧ (w'.cell? ⟨bp, offp + j * 6, none⟩ = some (.int .i64 bb.i) ∧ w'.cell? ⟨bp, offp + j * 6 + 1, none⟩ = some (.int .i64 (q : Int)) ∧ w'.cell? ⟨bp, offp + j * 6 + 2, none⟩ = some (.int .i64 y0) ∧ w'.cell? ⟨bp, offp + j * 6 + 3, none⟩ = some (.int .i64 y1) ∧ w'.cell? ⟨bp, offp + j * 6 + 4, none⟩ = some (.int .i64 y2) ∧ w'.cell? ⟨bp, offp + j * 6 + 5, none⟩ = some (.int .i64 y3)) := fun w' hw' => by
        have k2 := blk_below hw' kJ
        have hb5' := Below.trans hb5V (hw'.mono hsz5V)
        exact ⟨hw', ⟨blk_cell k2 0, blk_cell k2 1⟩, (hci w' hb5').2, (hcj w' hb5').2⟩
      have hb0 : Below V.heap.size V V := Below.refl _ _
      have hobp : older bp V = true := (hci V hb5V).1
      go_cut [10, 11] (fun va vb wx => ∃ E F : Nat, va = .pointer (some ⟨E, 0, none⟩) ∧ vb = .pointer (some ⟨F, 0, none⟩) ∧ V.heap.size ≤ E ∧ V.heap.size ≤ F ∧ blk wx E #[.int .i64 ba.i, .int .i64 (p : Int), .int .i64 x0, .int .i64 x1, .int .i64 x2, .int .i64 x3] 44 ∧ blk wx F #[.int .i64 bb.i, .int .i64 (q : Int), .int .i64 y0, .int .i64 y1, .int .i64 y2, .int .i64 y3] 44 ∧ Below V.heap.size V wx)
      case first =>
        clear hci hcj hpe hixH hst hqa hqb hPX5 hM5
        go_region_held3 (fun w' => Below V.heap.size V w' ∧ (w'.cell? ⟨wr.heap.size, 0, none⟩ = some (.int .i64 (i : Int)) ∧ w'.cell? ⟨wr.heap.size, 1, none⟩ = some (.int .i64 (j : Int))) ∧ (w'.cell? ⟨bp, offp + i * 6, none⟩ = some (.int .i64 ba.i) ∧ w'.cell? ⟨bp, offp + i * 6 + 1, none⟩ = some (.int .i64 (p : Int)) ∧ w'.cell? ⟨bp, offp + i * 6 + 2, none⟩ = some (.int .i64 x0) ∧ w'.cell? ⟨bp, offp + i * 6 + 3, none⟩ = some (.int .i64 x1) ∧ w'.cell? ⟨bp, offp + i * 6 + 4, none⟩ = some (.int .i64 x2) ∧ w'.cell? ⟨bp, offp + i * 6 + 5, none⟩ = some (.int .i64 x3)) ∧ (w'.cell? ⟨bp, offp + j * 6, none⟩ = some (.int .i64 bb.i) ∧ w'.cell? ⟨bp, offp + j * 6 + 1, none⟩ = some (.int .i64 (q : Int)) ∧ w'.cell? ⟨bp, offp + j * 6 + 2, none⟩ = some (.int .i64 y0) ∧ w'.cell? ⟨bp, offp + j * 6 + 3, none⟩ = some (.int .i64 y1) ∧ w'.cell? ⟨bp, offp + j * 6 + 4, none⟩ = some (.int .i64 y2) ∧ w'.cell? ⟨bp, offp + j * 6 + 5, none⟩ = some (.int .i64 y3))) (first | (refine hcellB _ ?_; exact bBel)) (fail)
        all_goals
          go_wp2_with fail
        all_goals
          go_meet
          exact ⟨_, _, rfl, rfl, (by simp), (by simp), bBkn, bBkn, bBel⟩
      case rest =>
      obtain ⟨E, F, rfl, rfl, hE, hF, kE, kF, hbX⟩ := hcut
      generalize wc = X at *
      have hb5X : Below W5.heap.size W5 X := Below.trans hb5V (hbX.mono hsz5V)
      have hownX := owns_below hownV hbX
      have hMX := hM5.to hb5X
      have hwX : Below w.heap.size w X := Below.trans hbw5 (hb5X.mono hszW5)
      clear hcellB hci hcj hb0 hobp okJ ckJ_0 ckJ_1 fkJ_0 fkJ_1 kJ hownV
      have okE := blk_older kE
      have ckE_0 : _ = some _ := blk_cell kE 0
      have ckE_1 : _ = some _ := blk_cell kE 1
      have ckE_2 : _ = some _ := blk_cell kE 2
      have ckE_3 : _ = some _ := blk_cell kE 3
      have ckE_4 : _ = some _ := blk_cell kE 4
      have ckE_5 : _ = some _ := blk_cell kE 5
      have fkE_0 := blk_free kE 0
      have fkE_1 := blk_free kE 1
      have fkE_2 := blk_free kE 2
      have fkE_3 := blk_free kE 3
      have fkE_4 := blk_free kE 4
      have fkE_5 := blk_free kE 5
      have okF := blk_older kF
      have ckF_0 : _ = some _ := blk_cell kF 0
      have ckF_1 : _ = some _ := blk_cell kF 1
      have ckF_2 : _ = some _ := blk_cell kF 2
      have ckF_3 : _ = some _ := blk_cell kF 3
      have ckF_4 : _ = some _ := blk_cell kF 4
      have ckF_5 : _ = some _ := blk_cell kF 5
      have fkF_0 := blk_free kF 0
      have fkF_1 := blk_free kF 1
      have fkF_2 := blk_free kF 2
      have fkF_3 := blk_free kF 3
      have fkF_4 := blk_free kF 4
      have fkF_5 := blk_free kF 5
      have hla0 := MBod.look hMX hia
      rw [hga] at hla0
      have hla : (Instr.lookup 71 (.map (some b)) (.int .i64 ba.i) false).run Tryz.prog X = .ok (.agg (bdc ba).toArray) X := hla0
      have hlb0 := MBod.look hMX hib
      rw [hgb] at hlb0
      have hlb : (Instr.lookup 71 (.map (some b)) (.int .i64 bb.i) false).run Tryz.prog X = .ok (.agg (bdc bb).toArray) X := hlb0
      have hqaX := bdQ.to hqa.out hwX
      have hqbX := bdQ.to hqb.out hwX
      have hJX := Jnts.to hJ hwX
      have hszX := hbX.size
      have hszWX := hwX.size
      have hsz5X := hb5X.size
      clear hla0 hlb0 hga hgb hqa hqb hMX
      cases hmc : mayC js (ba, p) (bb, q) with
      | false =>
        have cM := mayc_b ba bb p q pa pb h8a h8b A2 cap2 js (by omega) X hqaX hqbX hJX false hmc
        have hst2 : Hid (rsL P js (PR.take (k + 1)) = T) := by show _ = _; rw [hst.out]; unfold gkX; rw [if_neg (by rw [hmc]; simp)]; simp
        clear hst hmc hqaX hqbX hJX hpe hixH
        generalize (bdc ba).toArray = va at *
        generalize (bdc bb).toArray = vb at *
        go_wp2_with (go_at_call 30; with_reducible_and_instances refine Calls.mono (gw_at cM) ?_; rintro e w1 ⟨rfl, q9, rfl⟩)
        refine ⟨⟨k + 1, by omega, by go_num, ?_, bBel⟩, by (try go_num); simp [intOf]; (try omega)⟩
        rw [hst2.out]; exact owns_below hownX bBel
      | true =>
        have cM := mayc_b ba bb p q pa pb h8a h8b A2 cap2 js (by omega) X hqaX hqbX hJX true hmc
        have hst2 : Hid (rsL P js (PR.take (k + 1)) = T ++ [⟨ba.i, p, bb.i, q⟩]) := by show _ = _; rw [hst.out]; unfold gkX; rw [if_pos hmc]; rfl
        clear hst hmc hqaX hqbX hJX hpe hixH
        generalize (bdc ba).toArray = va at *
        generalize (bdc bb).toArray = vb at *
        generalize ba.i = ia at *
        generalize bb.i = ib at *
        go_wp2_with (first | (go_at_call 30; with_reducible_and_instances refine Calls.mono (gw_at cM) ?_; rintro e w1 ⟨rfl, q9, rfl⟩) | (at_builtin; refine wpList_app21 rfl _ _ 27 rfl W5.heap.size 60 i0 (.agg #[.int .i64 0, .int .i64 0, .int .i64 0, .int .i64 0]) 4 32 (by kernel_rfl) hi hz0 hz1 hz2 rfl (by decide) _ _ _ rfl (owns_below hownX bBel) _ [.int .i64 ia, .int .i64 (p : Int), .int .i64 ib, .int .i64 (q : Int)] 60 rfl rfl bBkn (by intro u hu; simp at hu; rcases hu with rfl | rfl | rfl | rfl <;> rfl) (by unfold maxLen; omega) (by omega) (by first | (simp; omega) | omega) ?_; intro v' w2 hown2 hb2 hg2 ho2))
        refine ⟨⟨k + 1, by omega, by go_num, ?_, Below.trans bBel hb2⟩, by (try go_num); simp [intOf]; (try omega)⟩
        rw [hst2.out, kv_snoc, List.length_append]; exact hown2
    · obtain rfl : k = PR.length := by omega
      rw [List.take_length, hfp.out] at hown
      have hbwR : Below w.heap.size w wr := Below.trans hbw5 (hbR.mono hszW5)
      go_wp2_with fail
      go_ret
      exact ⟨⟨_, rfl, owns_base hown hszW5⟩, hbwR⟩

end Go.Proofs.YtaahgblkmajceaaGreat
