/- Contracts of chapter 16's reference: faces (ManifoldCollide). -/
import Derived.Test.YtiecpebckmihgaaGreatMnF
import Derived.Test.YtiecpebckmihgaaGreatMnC
set_option linter.unusedVariables false
namespace Go.Proofs.YtiecpebckmihgaaGreat
open Go.RowKit Fx

theorem mnt_mk3 {w w' : World} {nx ny : Int} {l l' : List Cnt} {A' : Option Addr} {cap' : Nat} {ok ok' : Bool} (hL : l.length = l'.length) (hok : ok' = ok) (h1 : l.length ≤ cap') (h2 : cap' ≤ maxLen) (h3 : A' = none → cap' = 0) (h4 : Cnts w' A' l') (h6 : Below w.heap.size w w') : MnT w ⟨nx, ny, l'⟩ ok' (.returned (.tuple #[.agg #[.int .i64 nx, .int .i64 ny, .slice A' l.length cap'], .bool ok])) w' := by
  subst hok; rw [hL] at h1 ⊢; exact mnt_mk2 h1 h2 h3 h4 h6

set_option maxRecDepth 100000 in
set_option maxHeartbeats 32000000 in
theorem rfaces16_b (R S : Int) (A B_ : Option Addr) (ca cb : Nat) (ps qs : List (Int × Int)) (h2 : 2 ≤ ps.length) (g2 : 2 ≤ qs.length) (hl : ps.length ≤ 1000) (hm : qs.length ≤ 1000) (M : Mn) (hM : (facesM ps R qs S).nz = M) (w : World) (ha : Pts w A ps) (hb : Pts w B_ qs) :
    Calls Tryz.prog 31 #[.slice A ps.length ca, .int .i64 R, .slice B_ qs.length cb, .int .i64 S] w (MnT w M (decide (M.l ≠ []))) := by
  have cM := fun w' h1 h2 => rmsep_b A B_ ca cb ps qs (by omega) (by omega) w' h1 h2
  have cN := fun w' h1 h2 => rmsep_b B_ A cb ca qs ps (by omega) (by omega) w' h1 h2
  obtain ⟨i, hi, hI, -, -⟩ := msep_spec (a := ps) (b := qs) h2 (by omega)
  obtain ⟨k, hk, hK, -, -⟩ := msep_spec (a := qs) (b := ps) g2 (by omega)
  have cP := fun w' h1 h2' => mnt_ex (rface16_b R S A B_ ca cb i ps qs hi h2 g2 hl hm _ rfl w' h1 h2')
  have cQ := fun w' h1 h2' => mnt_ex (rface16_b S R B_ A cb ca k qs ps hk g2 h2 hm hl _ rfl w' h1 h2')
  have hids := fac_ids (a := qs) (b := ps) (i := k) (r := S) (s := R) (by omega) h2 hl
  have hQl : (facM qs (k : Int) S ps R 0).nz.l.length ≤ 2 := by rw [nz_l]; exact facM_len _ _ _ _ _ _
  have hR1 : (if 1024 < sub (sub (max (msep ps qs).2 (msep qs ps).2) R) S then mz else if add (msep ps qs).2 64 < (msep qs ps).2 then (facM qs (msep qs ps).1 S ps R 4096).flip else facM ps (msep ps qs).1 R qs S 0).nz = M := hM
  clear hM
  rw [hI] at hR1 cM
  rw [hK] at hR1 cN
  dsimp only at hR1 cM cN
  have hR2 : (1024 < sub (sub (max (sep ps i qs) (sep qs k ps)) R) S ∧ M = mz) ∨ (¬ 1024 < sub (sub (max (sep ps i qs) (sep qs k ps)) R) S ∧ add (sep ps i qs) 64 < sep qs k ps ∧ M = ⟨ng (facM qs (k : Int) S ps R 0).nz.nx, ng (facM qs (k : Int) S ps R 0).nz.ny, (facM qs (k : Int) S ps R 0).nz.l.map shiftP⟩) ∨ (¬ 1024 < sub (sub (max (sep ps i qs) (sep qs k ps)) R) S ∧ ¬ add (sep ps i qs) 64 < sep qs k ps ∧ M = (facM ps (i : Int) R qs S 0).nz) := by
    by_cases n1 : 1024 < sub (sub (max (sep ps i qs) (sep qs k ps)) R) S
    · rw [if_pos n1, nz_mz] at hR1; exact .inl ⟨n1, hR1.symm⟩
    · rw [if_neg n1] at hR1
      by_cases n2 : add (sep ps i qs) 64 < sep qs k ps
      · rw [if_pos n2, fac_shift_nz] at hR1; exact .inr (.inl ⟨n1, n2, hR1.symm⟩)
      · rw [if_neg n2] at hR1; exact .inr (.inr ⟨n1, n2, hR1.symm⟩)
  clear hR1 hI hK
  generalize (facM qs (k : Int) S ps R 0).nz = MQ at *
  generalize (facM ps (i : Int) R qs S 0).nz = MP at *
  generalize sep ps i qs = g at *
  generalize sep qs k ps = h at *
  have c1 := fun w' => rsub_b (max g h) R w'
  have c2 := fun w' => rsub_b (sub (max g h) R) S w'
  have c3 := fun w' => radd_b g 64 w'
  generalize sub (sub (max g h) R) S = S1 at *
  generalize sub (max g h) R = S0 at *
  generalize add g 64 = gb at *
  have hR3 : Hid (_ ∨ _) := hR2
  clear hR2
  obtain ⟨mx, my, ml⟩ := MQ
  obtain ⟨ox, oy, ol⟩ := MP
  dsimp only at hQl hids cP cQ
  obtain ⟨bm, hbm⟩ : ∃ x, decide (ml ≠ []) = x := ⟨_, rfl⟩
  rw [hbm] at cQ
  obtain ⟨bo, hbo⟩ : ∃ x, decide (ol ≠ []) = x := ⟨_, rfl⟩
  rw [hbo] at cP
  have hbmH : Hid (_ = bm) := hbm
  have hboH : Hid (_ = bo) := hbo
  clear hbm hbo
  have cF := fun A' c' h1 h2 w' h => mnb_ex (rflip2_b mx my A' c' ml (by omega) h1 h2 w' h)
  dsimp only at cF
  go_enter Tryz.func31, Tryz.ntmps31
  go_upto_region 3 with (first | (go_at_call 59; (with_reducible show Calls _ _ #[.slice A _ _, .slice B_ _ _] _ _); refine Calls.mono (gw_at (cM _ (Pts.to ha bBel) (Pts.to hb bBel))) ?_; rintro e w1 ⟨rfl, q, rfl⟩) | (go_at_call 59; (with_reducible show Calls _ _ #[.slice B_ _ _, .slice A _ _] _ _); refine Calls.mono (gw_at (cN _ (Pts.to hb bBel) (Pts.to ha bBel))) ?_; rintro e w1 ⟨rfl, q2, rfl⟩))
  refine wp_named ?_
  intro W hW
  have kR : blk W w.heap.size #[.int .i64 0, .int .i64 0, .slice none 0 0] 34 := by rw [hW]; exact bBkn
  have hbW : Below w.heap.size w W := by rw [hW]; exact bBel
  clear hW cM cN
  have hszW := hbW.size
  have haW := Pts.to ha hbW
  have hbPW := Pts.to hb hbW
  have hRW := blk_lt kR
  clear ha hb
  rcases hR3.out with ⟨n1, rfl⟩ | ⟨n1, n2, rfl⟩ | ⟨n1, n2, rfl⟩
  · have z1 : decide (1024 < S1) = true := decide_eq_true (by omega)
    clear hR3 cP cQ cF n1
    have okR := blk_older kR
    have ckR_0 : _ = some _ := blk_cell kR 0
    have ckR_1 : _ = some _ := blk_cell kR 1
    have ckR_2 : _ = some _ := blk_cell kR 2
    have fkR_0 := blk_free kR 0
    have fkR_1 := blk_free kR 1
    have fkR_2 := blk_free kR 2
    go_wp2_with (first | (go_at_call 48; (with_reducible show Calls _ _ #[.int .i64 S0, _] _ _); refine Calls.mono (gw_at (c2 _)) ?_; rintro e w1 ⟨rfl, q, rfl⟩) | (go_at_call 48; refine Calls.mono (gw_at (c1 _)) ?_; rintro e w1 ⟨rfl, q, rfl⟩))
    refine post_named ?_
    intro Z hZ
    have kZ : blk Z w.heap.size #[.int .i64 0, .int .i64 0, .slice none 0 0] 34 := by rw [hZ]; exact (by apply blk_of; (repeat (first | with_reducible exact kR | with_reducible apply blk_drew | with_reducible apply blk_gw | with_reducible apply blk_alloc | with_reducible apply blk_set | ((with_reducible apply blk_other); focus omega))); (first | rfl | simp))
    have hbZ : Below w.heap.size w Z := by rw [hZ]; exact bBel
    clear hZ
    have okZ := blk_older kZ
    have ckZ_0 : _ = some _ := blk_cell kZ 0
    have ckZ_1 : _ = some _ := blk_cell kZ 1
    have ckZ_2 : _ = some _ := blk_cell kZ 2
    have fkZ_0 := blk_free kZ 0
    have fkZ_1 := blk_free kZ 1
    have fkZ_2 := blk_free kZ 2
    exact bodyPost_ret (v := .tuple #[.agg #[.int .i64 0, .int .i64 0, .slice none 0 0], .bool false]) (by simp [results, Tryz.results31, go_sem, ckZ_0, ckZ_1, ckZ_2]) rfl (mnt_mk (l := []) (by decide) (Nat.le_refl _) (by decide) (fun _ => rfl) (.inl rfl) hbZ)
  · have z1 : decide (1024 < S1) = false := decide_eq_false (by omega)
    have z2 : decide (h ≤ gb) = false := decide_eq_false (by omega)
    have n2' : ¬ h ≤ gb := by omega
    clear hR3 cP n1 n2
    go_upto_region 8 with (first | (go_at_call 48; (with_reducible show Calls _ _ #[.int .i64 S0, _] _ _); refine Calls.mono (gw_at (c2 _)) ?_; rintro e w1 ⟨rfl, q2, rfl⟩) | (go_at_call 48; refine Calls.mono (gw_at (c1 _)) ?_; rintro e w1 ⟨rfl, q1, rfl⟩) | (go_at_call 58; refine Calls.mono (gw_at (c3 _)) ?_; rintro e w1 ⟨rfl, q3, rfl⟩) | (go_at_call 64; refine Calls.mono (cQ _ (Pts.to hbPW bBel) (Pts.to haW bBel)) ?_; rintro e w1 ⟨⟨A5, c5, rfl, hle5, hmx5, hnil5, hP5⟩, q5, rfl⟩))
    refine wp_named ?_
    intro V hV
    have kM : blk V (W.heap.size + q1.os.size + q2.os.size + q3.os.size + q5.os.size) #[.int .i64 mx, .int .i64 my, .slice A5 ml.length c5] 34 := by rw [hV]; exact bBkn
    have kR1 : blk V w.heap.size #[.int .i64 0, .int .i64 0, .slice none 0 0] 34 := by rw [hV]; exact (by apply blk_of; (repeat (first | with_reducible exact kR | with_reducible apply blk_drew | with_reducible apply blk_gw | with_reducible apply blk_alloc | with_reducible apply blk_set | ((with_reducible apply blk_other); focus omega))); (first | rfl | simp))
    have hbV : Below w.heap.size w V := by rw [hV]; exact bBel
    have hP5V : Cnts V A5 ml := by rw [hV]; exact Cnts.to hP5 bBel
    have hD0 : w.heap.size < W.heap.size + q1.os.size + q2.os.size + q3.os.size + q5.os.size := by omega
    clear hV kR hP5 hbW cQ c1 c2 c3 haW hbPW
    generalize W.heap.size + q1.os.size + q2.os.size + q3.os.size + q5.os.size = D at *
    have hszV := hbV.size
    have hDV := blk_lt kM
    have okM := blk_older kM
    have ckM_0 : _ = some _ := blk_cell kM 0
    have ckM_1 : _ = some _ := blk_cell kM 1
    have ckM_2 : _ = some _ := blk_cell kM 2
    have fkM_0 := blk_free kM 0
    have fkM_1 := blk_free kM 1
    have fkM_2 := blk_free kM 2
    go_upto_region 9 with (go_at_call 30; refine Calls.mono (cF _ _ hle5 hnil5 _ (Cnts.to hP5V bBel)) ?_; rintro e w1 ⟨⟨A6, c6, rfl, hle6, hmx6, hnil6, hP6, hF6⟩, q6, rfl⟩)
    refine wp_named ?_
    intro U hU
    have kD : blk U D #[.int .i64 (ng mx), .int .i64 (ng my), .slice A6 ml.length c6] 34 := by rw [hU]; exact (by apply blk_of; (repeat (first | with_reducible exact kM | with_reducible apply blk_drew | with_reducible apply blk_gw | with_reducible apply blk_alloc | with_reducible apply blk_set | ((with_reducible apply blk_other); focus omega))); (first | rfl | simp))
    have kR2 : blk U w.heap.size #[.int .i64 0, .int .i64 0, .slice none 0 0] 34 := by rw [hU]; exact (by apply blk_of; (repeat (first | with_reducible exact kR1 | with_reducible apply blk_drew | with_reducible apply blk_gw | with_reducible apply blk_alloc | with_reducible apply blk_set | ((with_reducible apply blk_other); focus omega))); (first | rfl | simp))
    have hbU : Below w.heap.size w U := by rw [hU]; exact bBel
    have hFU : ml = [] ∨ ∃ F c t, A6 = some ⟨F, 0, none⟩ ∧ V.heap.size ≤ F ∧ blk U F c t ∧ Rowc c ml := by
      rcases hF6 with h | ⟨F, c, t, rfl, h1, k1⟩
      · exact .inl h
      · rcases Nat.eq_zero_or_pos ml.length with h0 | h0
        · exact .inl (List.eq_nil_of_length_eq_zero h0)
        · have hge : V.heap.size ≤ F := by (try simp at h1); omega
          refine .inr ⟨F, c, t, rfl, hge, ?_, rowc_of hP6 k1⟩
          rw [hU]
          refine blk_sm ?_ k1
          repeat (first | with_reducible exact sm_refl _ _ | with_reducible refine sm_gw ?_ | with_reducible refine sm_set ?_ (by omega))
    have hFH : Hid (_ ∨ _) := hFU
    clear hU hF6 hFU hP6 hP5V kM kR1 hbV cF okM ckM_0 ckM_1 ckM_2 fkM_0 fkM_1 fkM_2
    have hszU := hbU.size
    go_wp2_with fail
    go_loopw [16] (fun ic wr => ∃ k : Nat, k ≤ ml.length ∧ ic = .int .i64 (k : Int) ∧ ((ml = [] ∧ wr = U) ∨ ∃ F c t, A6 = some ⟨F, 0, none⟩ ∧ V.heap.size ≤ F ∧ blk wr F c t ∧ Rowc c (shl k ml) ∧ ∀ b, b ≠ F → wr.heap[b]? = U.heap[b]?) ∧ Below w.heap.size w wr)
      (fun ic _ => (ml.length - intOf ic).toNat)
    case atStart =>
      refine ⟨0, by omega, rfl, ?_, hbU⟩
      rcases hFH.out with h | ⟨F, c, t, h1, h2, h3, h4⟩
      · exact .inl ⟨h, rfl⟩
      · exact .inr ⟨F, c, t, h1, h2, h3, h4, fun _ _ => rfl⟩
    case round =>
      obtain ⟨k, hk, rfl, hrel2, hbR⟩ := hrel
      have hrH : Hid (_ ∨ _) := hrel2
      clear hrel2 hFH
      have k0 : (0 : Int) ≤ (k : Int) := by omega
      by_cases hlt : k < ml.length
      · have k1 : (k : Int) < (ml.length : Int) := by omega
        rcases hrH.out with ⟨rfl, -⟩ | ⟨F, c, t, rfl, g1, kF, hrow, hUb⟩
        · simp at hlt
        have kD5 : blk wr D #[.int .i64 (ng mx), .int .i64 (ng my), .slice (some ⟨F, 0, none⟩) ml.length c6] 34 := (hUb _ (by omega)).trans kD
        obtain ⟨id0, id1⟩ := hids ml[k] (List.getElem_mem hlt)
        have hkl : k < (shl k ml).length := by rw [shl_len k ml (by omega)]; exact hlt
        have d1 : wr.cell? ⟨F, k * 6 + 3, none⟩ = some (.int .i64 ml[k].id) := by
          rw [blk_cell kF, hrow k hkl 3 (by decide), shl_get hlt]; rfl
        have d2 := blk_free kF (k * 6 + 3)
        have d3 := blk_older kF
        have hw1 : IntKind.i64.wrap (ml[k].id + 4096) = ml[k].id + 4096 := wrap_in (by omega)
        have hrow2 := rowc_set hrow hkl (ml[k].id + 4096)
        have hst : (shl k ml).set k { (shl k ml)[k] with id := ml[k].id + 4096 } = shl (k + 1) ml := by
          rw [shl_get hlt]; exact shl_set hlt
        rw [hst] at hrow2
        have hrow2H : Hid (Rowc _ _) := hrow2
        have hUbH : Hid (∀ _, _) := hUb
        have hFne : F ≠ D := by omega
        have gF : w.heap.size ≤ F := by omega
        clear hrH hrow hrow2 hst hids hkl hUb
        generalize ml[k].id = id at *
        have okD5 := blk_older kD5
        have ckD5_0 : _ = some _ := blk_cell kD5 0
        have ckD5_1 : _ = some _ := blk_cell kD5 1
        have ckD5_2 : _ = some _ := blk_cell kD5 2
        have fkD5_0 := blk_free kD5 0
        have fkD5_1 := blk_free kD5 1
        have fkD5_2 := blk_free kD5 2
        go_upto_region 12 with fail
        go_region
        all_goals
          go_wp2_with fail
        all_goals
          exact ⟨⟨k + 1, by omega, by go_num, .inr ⟨F, _, t, rfl, g1, blk_set kF, hrow2H.out, fun b h => (sm_set (sm_refl b wr) h).2.trans (hUbH.out b h)⟩, bBel⟩, by (try go_num); simp [intOf]; (try omega)⟩
      · obtain rfl : k = ml.length := by omega
        have k1 : ¬ (ml.length : Int) < (ml.length : Int) := by omega
        have kD5 : blk wr D #[.int .i64 (ng mx), .int .i64 (ng my), .slice A6 ml.length c6] 34 := by
          rcases hrH.out with ⟨-, rfl⟩ | ⟨F, c, t, h1, g1, kF, hrow, hUb⟩
          · exact kD
          · exact (hUb _ (by omega)).trans kD
        have kR5 : blk wr w.heap.size #[.int .i64 0, .int .i64 0, .slice none 0 0] 34 := by
          rcases hrH.out with ⟨-, rfl⟩ | ⟨F, c, t, h1, g1, kF, hrow, hUb⟩
          · exact kR2
          · exact (hUb _ (by omega)).trans kR2
        have hPR : Cnts wr A6 (ml.map shiftP) := by
          rcases hrH.out with ⟨h, -⟩ | ⟨F, c, t, rfl, g1, kF, hrow, hUb⟩
          · exact .inl (by rw [h]; rfl)
          · rw [shl_all] at hrow; exact rowc_to hrow kF
        clear hrH hids kD kR2
        have okD5 := blk_older kD5
        have ckD5_0 : _ = some _ := blk_cell kD5 0
        have ckD5_1 : _ = some _ := blk_cell kD5 1
        have ckD5_2 : _ = some _ := blk_cell kD5 2
        have fkD5_0 := blk_free kD5 0
        have fkD5_1 := blk_free kD5 1
        have fkD5_2 := blk_free kD5 2
        have okR5 := blk_older kR5
        have ckR5_0 : _ = some _ := blk_cell kR5 0
        have ckR5_1 : _ = some _ := blk_cell kR5 1
        have ckR5_2 : _ = some _ := blk_cell kR5 2
        have fkR5_0 := blk_free kR5 0
        have fkR5_1 := blk_free kR5 1
        have fkR5_2 := blk_free kR5 2
        go_wp2_with fail
        refine post_named ?_
        intro Z hZ
        have kZ : blk Z w.heap.size #[.int .i64 (ng mx), .int .i64 (ng my), .slice A6 ml.length c6] 34 := by rw [hZ]; exact (by apply blk_of; (repeat (first | with_reducible exact kR5 | with_reducible apply blk_drew | with_reducible apply blk_gw | with_reducible apply blk_alloc | with_reducible apply blk_set | ((with_reducible apply blk_other); focus omega))); (first | rfl | simp))
        have hbZ : Below w.heap.size w Z := by rw [hZ]; exact bBel
        have hPZ : Cnts Z A6 (ml.map shiftP) := by
          refine cnts_keep kR5 hPR fun b hb => ?_
          rw [hZ]
          repeat (first | with_reducible exact sm_refl _ _ | with_reducible refine sm_gw ?_ | with_reducible refine sm_set ?_ hb)
        clear hZ
        have okZ := blk_older kZ
        have ckZ_0 : _ = some _ := blk_cell kZ 0
        have ckZ_1 : _ = some _ := blk_cell kZ 1
        have ckZ_2 : _ = some _ := blk_cell kZ 2
        have fkZ_0 := blk_free kZ 0
        have fkZ_1 := blk_free kZ 1
        have fkZ_2 := blk_free kZ 2
        exact bodyPost_ret (v := .tuple #[.agg #[.int .i64 (ng mx), .int .i64 (ng my), .slice A6 ml.length c6], .bool bm]) (by simp [results, Tryz.results31, go_sem, ckZ_0, ckZ_1, ckZ_2]) rfl (mnt_mk3 (by rw [List.length_map]) (by have e := hbmH.out; clear hbmH; cases ml <;> simpa using e) hle6 hmx6 hnil6 hPZ hbZ)
  · have z1 : decide (1024 < S1) = false := decide_eq_false (by omega)
    have z2 : decide (h ≤ gb) = true := decide_eq_true (by omega)
    have n2' : h ≤ gb := by omega
    clear hR3 cQ cF n1 n2 hids
    have okR := blk_older kR
    have ckR_0 : _ = some _ := blk_cell kR 0
    have ckR_1 : _ = some _ := blk_cell kR 1
    have ckR_2 : _ = some _ := blk_cell kR 2
    have fkR_0 := blk_free kR 0
    have fkR_1 := blk_free kR 1
    have fkR_2 := blk_free kR 2
    go_wp2_with (first | (go_at_call 48; (with_reducible show Calls _ _ #[.int .i64 S0, _] _ _); refine Calls.mono (gw_at (c2 _)) ?_; rintro e w1 ⟨rfl, q2, rfl⟩) | (go_at_call 48; refine Calls.mono (gw_at (c1 _)) ?_; rintro e w1 ⟨rfl, q1, rfl⟩) | (go_at_call 58; refine Calls.mono (gw_at (c3 _)) ?_; rintro e w1 ⟨rfl, q3, rfl⟩) | (go_at_call 64; refine Calls.mono (cP _ (Pts.to haW bBel) (Pts.to hbPW bBel)) ?_; rintro e w1 ⟨⟨A5, c5, rfl, hle5, hmx5, hnil5, hP5⟩, q5, rfl⟩))
    refine post_named ?_
    intro Z hZ
    have kZ : blk Z w.heap.size #[.int .i64 ox, .int .i64 oy, .slice A5 ol.length c5] 34 := by rw [hZ]; exact (by apply blk_of; (repeat (first | with_reducible exact kR | with_reducible apply blk_drew | with_reducible apply blk_gw | with_reducible apply blk_alloc | with_reducible apply blk_set | ((with_reducible apply blk_other); focus omega))); (first | rfl | simp))
    have hbZ : Below w.heap.size w Z := by rw [hZ]; exact bBel
    have hPZ : Cnts Z A5 ol := by
      refine cnts_keep (E := w.heap.size) (x := 0) (y := 0) (B := none) (n := 0) (c := 0) (t := 34) (by apply blk_of; (repeat (first | with_reducible exact kR | with_reducible apply blk_drew | with_reducible apply blk_gw | with_reducible apply blk_alloc | with_reducible apply blk_set | ((with_reducible apply blk_other); focus omega))); (first | rfl | simp)) hP5 fun b hb => ?_
      rw [hZ]
      repeat (first | with_reducible exact sm_refl _ _ | with_reducible refine sm_gw ?_ | with_reducible refine sm_set ?_ hb)
    clear hZ
    have okZ := blk_older kZ
    have ckZ_0 : _ = some _ := blk_cell kZ 0
    have ckZ_1 : _ = some _ := blk_cell kZ 1
    have ckZ_2 : _ = some _ := blk_cell kZ 2
    have fkZ_0 := blk_free kZ 0
    have fkZ_1 := blk_free kZ 1
    have fkZ_2 := blk_free kZ 2
    exact bodyPost_ret (v := .tuple #[.agg #[.int .i64 ox, .int .i64 oy, .slice A5 ol.length c5], .bool bo]) (by simp [results, Tryz.results31, go_sem, ckZ_0, ckZ_1, ckZ_2]) rfl (mnt_mk3 rfl (by have e := hboH.out; clear hboH; cases ol <;> simpa using e) hle5 hmx5 hnil5 hPZ hbZ)

end Go.Proofs.YtiecpebckmihgaaGreat
