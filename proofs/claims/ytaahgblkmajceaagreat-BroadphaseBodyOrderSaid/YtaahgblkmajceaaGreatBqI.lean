/- Chapter 22: the reference's insert. -/
import Derived.Test.YtaahgblkmajceaaGreatBpA
import Derived.Test.YtaahgblkmajceaaGreatBh1
import Derived.Test.YtaahgblkmajceaaGreatBqT
import Derived.Deep.DeepCutAuto
import Derived.Deep.RegionHeld3
set_option linter.unusedVariables false
set_option linter.unusedSimpArgs false
namespace Go.Proofs.YtaahgblkmajceaaGreat
open Go.RowKit Fx

/-- 'append(out, xs...)' at one operation. -/
theorem wp_appE22 {P : Program} {w : World} {o : Oper} {a : Act} {K : Act → World → Prop} {Q : Exit → Act → World → Prop} (s x : Operand) (t : TypeId)
    (ho : o.op = .call { callee := .builtin .append, args := #[s, x], argTypes := #[t, t] })
    (B : Nat) (e : TypeId) (i : TypeInfo) (z : Value) (sz bytes : Nat) (ht : P.underlying t = some (.slice e)) (hi : P.info? e = some i) (hz : i.zero = some z) (hsize : i.size = sz) (hby : i.bytes = bytes) (hzs : z.cells.size = sz) (hsz : 0 < sz)
    (v : Value) (n : Nat) (xs : List Value) (hs : a.eval s = v) (hown : w.ownsRow B e sz v n xs) (X : Option Addr) (m c : Nat) (ys : List Value) (hx : a.eval x = .slice X m c) (hnil : X = none → c = 0) (hmc : m ≤ c) (hl : ys.length = m * sz) (hcs : Cs w X ys) (h1 : ∀ u ∈ ys, u.oneCell' = true)
    (h63 : n + m ≤ maxLen) (hbytes : (n + m) * bytes ≤ 140737488355328) (hB : B ≤ w.heap.size)
    (h : ∀ v' w', w'.ownsRow B e sz v' (n + m) (xs ++ ys) → Below B w w' → w.grownBy w' v.ownBlock → K (a.put o.dst v') w') : o.wp P a w K Q := by
  cases X with
  | none =>
    obtain rfl := hnil rfl
    obtain rfl : m = 0 := by omega
    have hn : ys = [] := List.eq_nil_of_length_eq_zero (by omega)
    subst hn
    have hrun := run_append_owned_none (P := P) w B t o.type e i sz ht hi v n xs hown
    unfold Oper.wp execOp
    simp only [ho, resolve, invoke, builtin, Sem.run_bind, Sem.run_pure, Result.andThen_ok, List.map_toArray, List.map_cons, List.map_nil, hs, hx, hrun]
    exact h v w (by simpa using hown) (Below.refl _ _) ⟨rfl, rfl, rfl, Nat.le_refl _, fun _ _ _ => rfl⟩
  | some ad =>
    obtain ⟨v', w', hr, h2, h3, h4, h5⟩ := run_append_own_at (P := P) w B t o.type e i z sz bytes ht hi hz hsize hby hzs hsz v n xs hown ad m c ys hl (cs_at hcs) h1 h63 hbytes hB
    unfold Oper.wp execOp
    simp only [ho, resolve, invoke, builtin, Sem.run_bind, Sem.run_pure, Result.andThen_ok, List.map_toArray, List.map_cons, List.map_nil, hs, hx, hr]
    refine h v' w' h2 ⟨h3.os, h3.tape, h3.output, h3.size, fun k hk => h3.block k (by omega) fun hk' => ?_⟩ h3
    obtain ⟨_, ⟨rfl, _⟩ | ⟨g, cap, cur, rfl, hBg, _⟩⟩ := hown
    · simp [Value.ownBlock] at hk'
    · simp [Value.ownBlock] at hk'; omega
theorem cs_blk22 {w : World} {b : Nat} {ys : List Value} {t : TypeId} (h : blk w b ys.toArray t) : Cs w (some ⟨b, 0, none⟩) ys :=
  .inr ⟨b, 0, rfl, fun i hi => by rw [Nat.zero_add, blk_cell h]; simp [hi]⟩
theorem rng_blk22I {w : World} {b : Nat} {l : List Value} {t : TypeId} (h : blk w b l.toArray t) : w.rangeAt b 0 l := fun j v hv => by rw [Nat.zero_add, blk_cell h]; simpa using hv
theorem kv_take22 : ∀ (l : List Ky) (k : Nat), (kv l).take (k * 4) = kv (l.take k)
  | [], k => by simp [kv]
  | x :: l, 0 => by simp [kv]
  | x :: l, k + 1 => by
    have := kv_take22 l k
    have e : kv (x :: l) = kyc x ++ kv l := by simp [kv]
    rw [e, List.take_append, List.take_of_length_le (by rw [kyc_len]; omega), kyc_len, show (k + 1) * 4 - 4 = k * 4 by omega, this]
    simp [kv]
theorem kv_drop22 : ∀ (l : List Ky) (k : Nat), (kv l).drop (k * 4) = kv (l.drop k)
  | [], k => by simp [kv]
  | x :: l, 0 => by simp [kv]
  | x :: l, k + 1 => by
    have := kv_drop22 l k
    have e : kv (x :: l) = kyc x ++ kv l := by simp [kv]
    rw [e, List.drop_append, List.drop_of_length_le (by rw [kyc_len]; omega), kyc_len, show (k + 1) * 4 - 4 = k * 4 by omega, this]
    simp
theorem kv_one22 (l : List Ky) : ∀ u ∈ kv l, u.oneCell' = true := fun u hu => by
  unfold kv at hu
  obtain ⟨x, _, hx⟩ := List.mem_flatMap.1 hu
  simp [kyc] at hx; rcases hx with rfl | rfl | rfl | rfl <;> rfl
theorem info_key22 : (Tryz.prog.info? 60).map (fun i => (i.zero, i.size, i.bytes)) = some (some (.agg #[.int .i64 0, .int .i64 0, .int .i64 0, .int .i64 0]), 4, 32) := by kernel_rfl
theorem u_keys : Tryz.prog.underlying 27 = some (.slice 60) := by kernel_rfl
theorem sz_key (W : World) : (Go.sizeOf 60).run Tryz.prog W = .ok 4 W := by kernel_rfl
theorem kv_at22 : ∀ (l : List Ky) (k : Nat) (h : k < l.length), (kv l)[k * 4]? = some (.int .i64 l[k].a) ∧ (kv l)[k * 4 + 1]? = some (.int .i64 l[k].p) ∧ (kv l)[k * 4 + 2]? = some (.int .i64 l[k].b) ∧ (kv l)[k * 4 + 3]? = some (.int .i64 l[k].q)
  | x :: l, 0, _ => ⟨rfl, rfl, rfl, rfl⟩
  | x :: l, k + 1, h => by
    have := kv_at22 l k (by simpa using h)
    have e : kv (x :: l) = kyc x ++ kv l := by simp [kv]
    rw [e, show (k + 1) * 4 = k * 4 + 4 by omega, show k * 4 + 4 + 1 = (k * 4 + 1) + 4 by omega, show k * 4 + 4 + 2 = (k * 4 + 2) + 4 by omega, show k * 4 + 4 + 3 = (k * 4 + 3) + 4 by omega]
    have a : ∀ j, (kyc x ++ kv l)[j + 4]? = (kv l)[j]? := fun j => by rw [List.getElem?_append_right (by rw [kyc_len]; omega), kyc_len]; congr 1
    rw [a, a, a, a]; exact this
/-- An own row of keys: its elements. -/
theorem keys_ix {w : World} {B : Nat} {v : Value} {xs : List Ky} (h : w.ownsRow B 60 4 v xs.length (kv xs)) {k : Nat} (hk : k < xs.length) : ∃ g, v.ownBlock = some g ∧ (∀ W, (Instr.indexAt 27 v (.int .i64 (k : Int))).run Tryz.prog W = .ok (.pointer (some ⟨g, k * 4, none⟩)) W) ∧ ∀ w', Below w.heap.size w w' → older g w' = true ∧ w'.cell? ⟨g, k * 4, none⟩ = some (.int .i64 xs[k].a) ∧ w'.cell? ⟨g, k * 4 + 1, none⟩ = some (.int .i64 xs[k].p) ∧ w'.cell? ⟨g, k * 4 + 2, none⟩ = some (.int .i64 xs[k].b) ∧ w'.cell? ⟨g, k * 4 + 3, none⟩ = some (.int .i64 xs[k].q) := by
  obtain ⟨g, h1, h2, h3, h4⟩ := row_ix u_keys sz_key h hk (by rw [kv_len])
  obtain ⟨c0, c1, c2, c3⟩ := kv_at22 xs k hk
  have d0 : w.cell? ⟨g, k * 4, none⟩ = _ := (h4 0 (by decide)).trans c0
  have d1 := (h4 1 (by decide)).trans c1
  have d2 := (h4 2 (by decide)).trans c2
  have d3 := (h4 3 (by decide)).trans c3
  refine ⟨g, h2, h3, fun w' hb => ⟨older_iff.2 (Nat.lt_of_lt_of_le h1 hb.size), ?_, ?_, ?_, ?_⟩⟩
  · exact (hb.cell (p := ⟨g, k * 4, none⟩) h1).trans d0
  · exact (hb.cell (p := ⟨g, k * 4 + 1, none⟩) h1).trans d1
  · exact (hb.cell (p := ⟨g, k * 4 + 2, none⟩) h1).trans d2
  · exact (hb.cell (p := ⟨g, k * 4 + 3, none⟩) h1).trans d3

set_option maxRecDepth 100000 in
set_option maxHeartbeats 16000000 in
theorem rins22_b (B : Nat) (v : Value) (L : List Ky) (ea ep eb eq : Int) (hl : L.length ≤ 1000000) (w : World) (hB : B ≤ w.heap.size) (hown : w.ownsRow B 60 4 v L.length (kv L)) : Calls Tryz.prog 34 #[v, .agg #[.int .i64 ea, .int .i64 ep, .int .i64 eb, .int .i64 eq]] w fun e w' => (∃ v', e = .returned v' ∧ w'.ownsRow w.heap.size 60 4 v' (insK L ⟨ea, ep, eb, eq⟩).length (kv (insK L ⟨ea, ep, eb, eq⟩))) ∧ Below w.heap.size w w' := by
  obtain ⟨i0, hi, hz0, hz1, hz2⟩ := info_parts info_key22
  have hlen : ∀ ty W', (Builtin.len_ #[27] ty #[v]).run Tryz.prog W' = .ok (.int .i64 (L.length : Int)) W' := fun ty W' => row_len u_keys hown ty W'
  have hixH := show Hid _ from fun k hk => keys_ix hown (k := k) hk
  obtain ⟨R, hR⟩ : ∃ R, Hid (insK L ⟨ea, ep, eb, eq⟩ = R) := ⟨_, rfl⟩
  rw [hR.out]
  go_enter Tryz.func34, Tryz.ntmps34
  go_upto_region 1 with fail
  refine wp_named ?_
  intro W hW
  have kP : blk W w.heap.size #[.int .i64 ea, .int .i64 ep, .int .i64 eb, .int .i64 eq] 60 := by rw [hW]; exact bBkn
  have hbW : Below w.heap.size w W := by rw [hW]; exact bBel
  clear hW
  have hszW := hbW.size
  go_wp2_with fail
  go_loopw [5] (fun i wr => ∃ k : Nat, k ≤ L.length ∧ i = .int .i64 (k : Int) ∧ Hid (∀ j (h : j < L.length), j < k → ltK L[j] ⟨ea, ep, eb, eq⟩) ∧ Below W.heap.size W wr) (fun i _ => L.length - (intOf i).toNat)
  case atStart => exact ⟨0, by omega, rfl, fun j _ h => by omega, Below.refl _ _⟩
  case round =>
    obtain ⟨k, hk, rfl, hno, hb⟩ := hrel
    have hszR := hb.size
    have kR := blk_below hb kP
    have hbw := Below.trans hbW (hb.mono hbW.size)
    have hszw := hbw.size
    have okR := blk_older kR
    have ckR_0 : _ = some _ := blk_cell kR 0
    have ckR_1 : _ = some _ := blk_cell kR 1
    have ckR_2 : _ = some _ := blk_cell kR 2
    have ckR_3 : _ = some _ := blk_cell kR 3
    have fkR_0 := blk_free kR 0
    have fkR_1 := blk_free kR 1
    have fkR_2 := blk_free kR 2
    have fkR_3 := blk_free kR 3
    by_cases hlt : k < L.length
    · have hltI : (k : Int) < (L.length : Int) := by omega
      have hltD : decide ((k : Int) < (L.length : Int)) = true := decide_eq_true hltI
      have hltD2 : decide (k < L.length) = true := decide_eq_true hlt
      obtain ⟨g, -, hix, hc⟩ := hixH.out k hlt
      obtain ⟨og, d0, d1, d2, d3⟩ := hc wr hbw
      have hno2 : Hid (ltK L[k] ⟨ea, ep, eb, eq⟩ → ∀ j (h : j < L.length), j < k + 1 → ltK L[j] ⟨ea, ep, eb, eq⟩) := fun h2 j hj hjk => by
        rcases Nat.lt_or_eq_of_le (Nat.le_of_lt_succ hjk) with h3 | rfl
        · exact hno.out j hj h3
        · exact h2
      have hstop : Hid (¬ ltK L[k] ⟨ea, ep, eb, eq⟩ → R = L.take k ++ ⟨ea, ep, eb, eq⟩ :: L.drop k) := fun h2 => by
        rw [← hR.out, insK_at hk hno.out (fun _ => h2)]
      clear hc hno
      generalize L[k] = x at *
      obtain ⟨xa, xp, xb, xq⟩ := x
      dsimp only at d0 d1 d2 d3
      cases hv : les8 xa xp xb xq ea ep eb eq with
      | true =>
        have hn4 : Hid (∀ j (h : j < L.length), j < k + 1 → ltK L[j] ⟨ea, ep, eb, eq⟩) := hno2.out (lesK_iff.1 hv)
        have cL := fun w' => boolIs (rles22_b xa xp xb xq ea ep eb eq w') hv
        clear hno2 hstop hv
        go_wp2_with fail
        refine wp_region_gw (by kernel_rfl) (by kernel_rfl) ?_
        repeat (go_big_quiet_step ((first | (go_at_call 23; with_reducible_and_instances exact gw_call (cL _)))))
        refine wpQuiet_nil ?_
        intro w1 hw1
        obtain ⟨q, rfl⟩ := hw1
        go_wp2_with fail
        exact ⟨⟨k + 1, by omega, by go_num, hn4, bBel⟩, by (try go_num); simp [intOf]; (try omega)⟩
      | false =>
        have hs4 : Hid (R = L.take k ++ ⟨ea, ep, eb, eq⟩ :: L.drop k) := hstop.out (fun h => by rw [← lesK_iff] at h; unfold lesK at h; rw [hv] at h; cases h)
        have cL := fun w' => boolIs (rles22_b xa xp xb xq ea ep eb eq w') hv
        clear hno2 hstop hv
        go_wp2_with fail
        refine wp_region_gw (by kernel_rfl) (by kernel_rfl) ?_
        repeat (go_big_quiet_step ((first | (go_at_call 23; with_reducible_and_instances exact gw_call (cL _)))))
        refine wpQuiet_nil ?_
        intro w1 hw1
        obtain ⟨q, rfl⟩ := hw1
        go_upto_region 4 with fail
        refine wp_named ?_
        intro Y hY
        have hbY : Below W.heap.size W Y := by rw [hY]; exact bBel
        clear hY
        have kY := blk_below hbY kP
        obtain ⟨A1, s1, r1, r1', z1, q1, p1⟩ := own_hi21 u_keys hi hz1 hown k hk k rfl
        obtain ⟨A2, s2, r2, r2', z2, q2, p2⟩ := own_lo21 u_keys hi hz1 hown k hk k rfl
        rw [kv_take22] at p1
        rw [kv_drop22] at p2
        have e1 : (kv (L.take k)).length = k * 4 := by rw [kv_len, List.length_take, Nat.min_eq_left hk]
        have e2 : (kv (L.drop k)).length = (L.length - k) * 4 := by rw [kv_len, List.length_drop]
        have g1 := kv_one22 (L.take k)
        have g2 := kv_one22 (L.drop k)
        have f1 : Hid ([] ++ kv (L.take k) ++ [.int .i64 ea, .int .i64 ep, .int .i64 eb, .int .i64 eq] ++ kv (L.drop k) = kv R) := by
          show _ = _
          rw [hs4.out, List.nil_append]
          simp [kv, kyc]
        have hRl : Hid (R.length = L.length + 1) := by show _ = _; rw [hs4.out]; simp <;> omega
        generalize hm2 : L.length - k = m2 at *
        have hm2' : Hid (L.length - k = m2) := hm2
        have hm2l : m2 ≤ 1000000 := by omega
        clear hm2
        generalize kv (L.take k) = Y1 at *
        generalize kv (L.drop k) = Y2 at *
        have hszY := hbY.size
        have hbwY := Below.trans hbW (hbY.mono hbW.size)
        have hszwY := hbwY.size
        have hLk : ∀ w', Below Y.heap.size Y w' → w'.rangeAt w.heap.size 0 [.int .i64 ea, .int .i64 ep, .int .i64 eb, .int .i64 eq] := fun w' h' => rng_blk22I (l := [.int .i64 ea, .int .i64 ep, .int .i64 eb, .int .i64 eq]) (blk_below h' kY)
        refine wp_region_held_drew (S := fun w' => Below Y.heap.size Y w') (by kernel_rfl) bBel (fun hHeld => ?_)
        refine wpAnyH_take (i := 1) (v := ?_) rfl (by kernel_rfl) (by kernel_rfl) (by kernel_rfl) (fun _ _ _ h => h) (Or.inl ⟨by rfl, ?_⟩) (by assumption) ?_
        rotate_left
        · intro w0 hS0
          go_simp
          all_goals (with_reducible rfl)
        (try simp only [Act.put, List.setIfInBounds_toArray, List.set_cons_zero, List.set_cons_succ])
        refine wpAnyH_take (i := 2) (v := ?_) rfl (by kernel_rfl) (by kernel_rfl) (by kernel_rfl) (fun _ _ _ h => h) (Or.inl ⟨by rfl, ?_⟩) (by assumption) ?_
        rotate_left
        · intro w0 hS0
          go_simp
          all_goals (with_reducible rfl)
        (try simp only [Act.put, List.setIfInBounds_toArray, List.set_cons_zero, List.set_cons_succ])
        refine wpAnyH_take (i := 3) (v := ?_) rfl (by kernel_rfl) (by kernel_rfl) (by kernel_rfl) (fun _ _ _ h => h) (Or.inl ⟨by rfl, ?_⟩) (by assumption) ?_
        rotate_left
        · intro w0 hS0
          go_simp
          all_goals (with_reducible rfl)
        (try simp only [Act.put, List.setIfInBounds_toArray, List.set_cons_zero, List.set_cons_succ])
        refine wpAnyH_take (i := 5) rfl (by kernel_rfl) (by kernel_rfl) (by kernel_rfl) (fun _ _ _ h => h) (yieldsIf_load_mid (by rfl) 60 _ rfl w.heap.size 0 rfl _ _ hLk Tryz.underlying60 rfl (by kernel_rfl)) (by assumption) ?_
        (try simp only [Act.put, List.setIfInBounds_toArray, List.set_cons_zero, List.set_cons_succ])
        refine wpAnyH_take (i := 8) (v := ?_) rfl (by kernel_rfl) (by kernel_rfl) (by kernel_rfl) (fun _ _ _ h => h) (Or.inl ⟨by rfl, ?_⟩) (by assumption) ?_
        rotate_left
        · intro w0 hS0
          go_simp
          all_goals (with_reducible rfl)
        (try simp only [Act.put, List.setIfInBounds_toArray, List.set_cons_zero, List.set_cons_succ])
        refine wpAnyH_take (i := 9) (v := ?_) rfl (by kernel_rfl) (by kernel_rfl) (by kernel_rfl) (fun _ _ _ h => h) (Or.inl ⟨by rfl, ?_⟩) (by assumption) ?_
        rotate_left
        · intro w0 hS0
          go_simp
          all_goals (with_reducible rfl)
        (try simp only [Act.put, List.setIfInBounds_toArray, List.set_cons_zero, List.set_cons_succ])
        refine wpAnyH_take (i := 10) (v := ?_) rfl (by kernel_rfl) (by kernel_rfl) (by kernel_rfl) (fun _ _ _ h => h) (Or.inl ⟨by rfl, ?_⟩) (by assumption) ?_
        rotate_left
        · intro w0 hS0
          go_simp
          all_goals (with_reducible rfl)
        (try simp only [Act.put, List.setIfInBounds_toArray, List.set_cons_zero, List.set_cons_succ])
        refine wpAnyH_ready (rs := [0, 6]) (by kernel_rfl) (by simp) ?_
        refine (AllReadyH.cons rfl (fun K hK => ?_) (AllReadyH.cons rfl (fun K hK => ?_) AllReadyH.nil))
        · skip
          go_simp
          refine hK.out _ _ bBel (fun hHeld => ?_)
          clear hK K
          (try simp only [Act.put, List.setIfInBounds_toArray, List.set_cons_zero, List.set_cons_succ])
          refine wpAnyH_ready (rs := [4, 6]) (by kernel_rfl) (by simp) ?_
          refine (AllReadyH.cons rfl (fun K hK => ?_) (AllReadyH.cons rfl (fun K hK => ?_) AllReadyH.nil))
          · skip
            rw [if_pos (by rfl)]
            refine wp_appE22 _ _ 27 rfl Y.heap.size 60 i0 (.agg #[.int .i64 0, .int .i64 0, .int .i64 0, .int .i64 0]) 4 32 u_keys hi hz0 hz1 hz2 rfl (by decide) _ 0 [] rfl (own_nil21 bBkn (by first | omega | (simp; done) | (simp; omega))) A1 k s1 Y1 rfl z1 q1 e1 (Cs.to p1 bBel) g1 (by unfold maxLen; omega) (by omega) (by first | omega | (simp; done) | (simp; omega)) ?_
            intro v1 w1 hown1 hb1 hg1
            have hbY1 : Below Y.heap.size Y w1 := by refine Below.trans ?_ hb1; exact bBel
            have hbw1 : Below w.heap.size w w1 := Below.trans hbwY (hbY1.mono hszwY)
            have hszY1 := hbY1.size
            have hszw1 := hbw1.size
            refine hK.out _ _ hbY1 (fun hHeld => ?_)
            clear hK K hb1 hg1
            (try simp only [Act.put, List.setIfInBounds_toArray, List.set_cons_zero, List.set_cons_succ])
            refine wpAnyH_ready (rs := [6]) (by kernel_rfl) (by simp) ?_
            refine (AllReadyH.cons rfl (fun K hK => ?_) AllReadyH.nil)
            go_simp
            refine hK.out _ _ bBel (fun hHeld => ?_)
            clear hK K
            (try simp only [Act.put, List.setIfInBounds_toArray, List.set_cons_zero, List.set_cons_succ])
            refine wpAnyH_ready (rs := [7]) (by kernel_rfl) (by simp) ?_
            refine (AllReadyH.cons rfl (fun K hK => ?_) AllReadyH.nil)
            rw [if_pos (by rfl)]
            refine wp_appE22 _ _ 27 rfl Y.heap.size 60 i0 (.agg #[.int .i64 0, .int .i64 0, .int .i64 0, .int .i64 0]) 4 32 u_keys hi hz0 hz1 hz2 rfl (by decide) _ _ _ rfl (owns_below hown1 bBel) (some ⟨_, 0, none⟩) 1 1 [.int .i64 ea, .int .i64 ep, .int .i64 eb, .int .i64 eq] rfl (fun h => by cases h) (Nat.le_refl _) rfl (cs_blk22 (t := 60) bBkn) (by intro u hu; simp at hu; rcases hu with rfl | rfl | rfl | rfl <;> rfl) (by unfold maxLen; omega) (by omega) (by first | omega | (simp; done) | (simp; omega)) ?_
            intro v2 w2 hown2 hb2 hg2
            have hbY2 : Below Y.heap.size Y w2 := by refine Below.trans ?_ hb2; exact bBel
            have hbw2 : Below w.heap.size w w2 := Below.trans hbwY (hbY2.mono hszwY)
            have hszY2 := hbY2.size
            have hszw2 := hbw2.size
            refine hK.out _ _ hbY2 (fun hHeld => ?_)
            clear hK K hb2 hg2
            (try simp only [Act.put, List.setIfInBounds_toArray, List.set_cons_zero, List.set_cons_succ])
            refine wpAnyH_ready (rs := [11]) (by kernel_rfl) (by simp) ?_
            refine (AllReadyH.cons rfl (fun K hK => ?_) AllReadyH.nil)
            rw [if_pos (by rfl)]
            refine wp_appE22 _ _ 27 rfl Y.heap.size 60 i0 (.agg #[.int .i64 0, .int .i64 0, .int .i64 0, .int .i64 0]) 4 32 u_keys hi hz0 hz1 hz2 rfl (by decide) _ _ _ rfl hown2 A2 m2 s2 Y2 rfl z2 q2 e2 (Cs.to p2 hbw2) g2 (by unfold maxLen; omega) (by omega) (by first | omega | (simp; done) | (simp; omega)) ?_
            intro v3 w3 hown3 hb3 hg3
            have hbY3 : Below Y.heap.size Y w3 := Below.trans hbY2 hb3
            have hbw3 : Below w.heap.size w w3 := Below.trans hbwY (hbY3.mono hszwY)
            refine hK.out _ _ hbY3 (fun hHeld => ?_)
            clear hK K hb3 hg3
            (try simp only [Act.put, List.setIfInBounds_toArray, List.set_cons_zero, List.set_cons_succ])
            refine wpAnyH_ready (rs := [12]) (by kernel_rfl) (by simp) ?_
            refine (AllReadyH.cons rfl (fun K hK => ?_) AllReadyH.nil)
            go_simp
            refine hK.out _ _ hbY3 (fun hHeld => ?_)
            clear hK K
            (try simp only [Act.put, List.setIfInBounds_toArray, List.set_cons_zero, List.set_cons_succ])
            refine wpAnyH_done (by kernel_rfl) ?_ _
            go_wp2_with fail
            go_ret
            exact ⟨⟨_, rfl, owns_base (own_castk21 hown3 (by have := hRl.out; have := hm2'.out; omega) f1.out) hszwY⟩, hbw3⟩
          · skip
            go_simp
            refine hK.out _ _ bBel (fun hHeld => ?_)
            clear hK K
            (try simp only [Act.put, List.setIfInBounds_toArray, List.set_cons_zero, List.set_cons_succ])
            refine wpAnyH_ready (rs := [4]) (by kernel_rfl) (by simp) ?_
            refine (AllReadyH.cons rfl (fun K hK => ?_) AllReadyH.nil)
            rw [if_pos (by rfl)]
            refine wp_appE22 _ _ 27 rfl Y.heap.size 60 i0 (.agg #[.int .i64 0, .int .i64 0, .int .i64 0, .int .i64 0]) 4 32 u_keys hi hz0 hz1 hz2 rfl (by decide) _ 0 [] rfl (own_nil21 bBkn (by first | omega | (simp; done) | (simp; omega))) A1 k s1 Y1 rfl z1 q1 e1 (Cs.to p1 bBel) g1 (by unfold maxLen; omega) (by omega) (by first | omega | (simp; done) | (simp; omega)) ?_
            intro v1 w1 hown1 hb1 hg1
            have hbY1 : Below Y.heap.size Y w1 := by refine Below.trans ?_ hb1; exact bBel
            have kK : blk w1 (Y.heap.size + 1) #[.int .i64 ea, .int .i64 ep, .int .i64 eb, .int .i64 eq] 60 := blk_grown20 hg1 bBkn (show (some (Y.heap.size) : Option Nat) ≠ some ((Y.heap.size + 1)) by simp)
            have hbw1 : Below w.heap.size w w1 := Below.trans hbwY (hbY1.mono hszwY)
            have hszY1 := hbY1.size
            have hszw1 := hbw1.size
            refine hK.out _ _ hbY1 (fun hHeld => ?_)
            clear hK K hb1 hg1
            (try simp only [Act.put, List.setIfInBounds_toArray, List.set_cons_zero, List.set_cons_succ])
            refine wpAnyH_ready (rs := [7]) (by kernel_rfl) (by simp) ?_
            refine (AllReadyH.cons rfl (fun K hK => ?_) AllReadyH.nil)
            rw [if_pos (by rfl)]
            refine wp_appE22 _ _ 27 rfl Y.heap.size 60 i0 (.agg #[.int .i64 0, .int .i64 0, .int .i64 0, .int .i64 0]) 4 32 u_keys hi hz0 hz1 hz2 rfl (by decide) _ _ _ rfl hown1 (some ⟨_, 0, none⟩) 1 1 [.int .i64 ea, .int .i64 ep, .int .i64 eb, .int .i64 eq] rfl (fun h => by cases h) (Nat.le_refl _) rfl (cs_blk22 (t := 60) kK) (by intro u hu; simp at hu; rcases hu with rfl | rfl | rfl | rfl <;> rfl) (by unfold maxLen; omega) (by omega) (by first | omega | (simp; done) | (simp; omega)) ?_
            intro v2 w2 hown2 hb2 hg2
            have hbY2 : Below Y.heap.size Y w2 := by refine Below.trans ?_ hb2; exact bBel
            have hbw2 : Below w.heap.size w w2 := Below.trans hbwY (hbY2.mono hszwY)
            have hszY2 := hbY2.size
            have hszw2 := hbw2.size
            refine hK.out _ _ hbY2 (fun hHeld => ?_)
            clear hK K hb2 hg2
            (try simp only [Act.put, List.setIfInBounds_toArray, List.set_cons_zero, List.set_cons_succ])
            refine wpAnyH_ready (rs := [11]) (by kernel_rfl) (by simp) ?_
            refine (AllReadyH.cons rfl (fun K hK => ?_) AllReadyH.nil)
            rw [if_pos (by rfl)]
            refine wp_appE22 _ _ 27 rfl Y.heap.size 60 i0 (.agg #[.int .i64 0, .int .i64 0, .int .i64 0, .int .i64 0]) 4 32 u_keys hi hz0 hz1 hz2 rfl (by decide) _ _ _ rfl hown2 A2 m2 s2 Y2 rfl z2 q2 e2 (Cs.to p2 hbw2) g2 (by unfold maxLen; omega) (by omega) (by first | omega | (simp; done) | (simp; omega)) ?_
            intro v3 w3 hown3 hb3 hg3
            have hbY3 : Below Y.heap.size Y w3 := Below.trans hbY2 hb3
            have hbw3 : Below w.heap.size w w3 := Below.trans hbwY (hbY3.mono hszwY)
            refine hK.out _ _ hbY3 (fun hHeld => ?_)
            clear hK K hb3 hg3
            (try simp only [Act.put, List.setIfInBounds_toArray, List.set_cons_zero, List.set_cons_succ])
            refine wpAnyH_ready (rs := [12]) (by kernel_rfl) (by simp) ?_
            refine (AllReadyH.cons rfl (fun K hK => ?_) AllReadyH.nil)
            go_simp
            refine hK.out _ _ hbY3 (fun hHeld => ?_)
            clear hK K
            (try simp only [Act.put, List.setIfInBounds_toArray, List.set_cons_zero, List.set_cons_succ])
            refine wpAnyH_done (by kernel_rfl) ?_ _
            go_wp2_with fail
            go_ret
            exact ⟨⟨_, rfl, owns_base (own_castk21 hown3 (by have := hRl.out; have := hm2'.out; omega) f1.out) hszwY⟩, hbw3⟩
        · skip
          go_simp
          refine hK.out _ _ bBel (fun hHeld => ?_)
          clear hK K
          (try simp only [Act.put, List.setIfInBounds_toArray, List.set_cons_zero, List.set_cons_succ])
          refine wpAnyH_ready (rs := [0]) (by kernel_rfl) (by simp) ?_
          refine (AllReadyH.cons rfl (fun K hK => ?_) AllReadyH.nil)
          go_simp
          refine hK.out _ _ bBel (fun hHeld => ?_)
          clear hK K
          (try simp only [Act.put, List.setIfInBounds_toArray, List.set_cons_zero, List.set_cons_succ])
          refine wpAnyH_ready (rs := [4]) (by kernel_rfl) (by simp) ?_
          refine (AllReadyH.cons rfl (fun K hK => ?_) AllReadyH.nil)
          rw [if_pos (by rfl)]
          refine wp_appE22 _ _ 27 rfl Y.heap.size 60 i0 (.agg #[.int .i64 0, .int .i64 0, .int .i64 0, .int .i64 0]) 4 32 u_keys hi hz0 hz1 hz2 rfl (by decide) _ 0 [] rfl (own_nil21 bBkn (by first | omega | (simp; done) | (simp; omega))) A1 k s1 Y1 rfl z1 q1 e1 (Cs.to p1 bBel) g1 (by unfold maxLen; omega) (by omega) (by first | omega | (simp; done) | (simp; omega)) ?_
          intro v1 w1 hown1 hb1 hg1
          have hbY1 : Below Y.heap.size Y w1 := by refine Below.trans ?_ hb1; exact bBel
          have kK : blk w1 Y.heap.size #[.int .i64 ea, .int .i64 ep, .int .i64 eb, .int .i64 eq] 60 := blk_grown20 hg1 bBkn (show (some (Y.heap.size + 1) : Option Nat) ≠ some (Y.heap.size) by simp)
          have hbw1 : Below w.heap.size w w1 := Below.trans hbwY (hbY1.mono hszwY)
          have hszY1 := hbY1.size
          have hszw1 := hbw1.size
          refine hK.out _ _ hbY1 (fun hHeld => ?_)
          clear hK K hb1 hg1
          (try simp only [Act.put, List.setIfInBounds_toArray, List.set_cons_zero, List.set_cons_succ])
          refine wpAnyH_ready (rs := [7]) (by kernel_rfl) (by simp) ?_
          refine (AllReadyH.cons rfl (fun K hK => ?_) AllReadyH.nil)
          rw [if_pos (by rfl)]
          refine wp_appE22 _ _ 27 rfl Y.heap.size 60 i0 (.agg #[.int .i64 0, .int .i64 0, .int .i64 0, .int .i64 0]) 4 32 u_keys hi hz0 hz1 hz2 rfl (by decide) _ _ _ rfl hown1 (some ⟨_, 0, none⟩) 1 1 [.int .i64 ea, .int .i64 ep, .int .i64 eb, .int .i64 eq] rfl (fun h => by cases h) (Nat.le_refl _) rfl (cs_blk22 (t := 60) kK) (by intro u hu; simp at hu; rcases hu with rfl | rfl | rfl | rfl <;> rfl) (by unfold maxLen; omega) (by omega) (by first | omega | (simp; done) | (simp; omega)) ?_
          intro v2 w2 hown2 hb2 hg2
          have hbY2 : Below Y.heap.size Y w2 := by refine Below.trans ?_ hb2; exact bBel
          have hbw2 : Below w.heap.size w w2 := Below.trans hbwY (hbY2.mono hszwY)
          have hszY2 := hbY2.size
          have hszw2 := hbw2.size
          refine hK.out _ _ hbY2 (fun hHeld => ?_)
          clear hK K hb2 hg2
          (try simp only [Act.put, List.setIfInBounds_toArray, List.set_cons_zero, List.set_cons_succ])
          refine wpAnyH_ready (rs := [11]) (by kernel_rfl) (by simp) ?_
          refine (AllReadyH.cons rfl (fun K hK => ?_) AllReadyH.nil)
          rw [if_pos (by rfl)]
          refine wp_appE22 _ _ 27 rfl Y.heap.size 60 i0 (.agg #[.int .i64 0, .int .i64 0, .int .i64 0, .int .i64 0]) 4 32 u_keys hi hz0 hz1 hz2 rfl (by decide) _ _ _ rfl hown2 A2 m2 s2 Y2 rfl z2 q2 e2 (Cs.to p2 hbw2) g2 (by unfold maxLen; omega) (by omega) (by first | omega | (simp; done) | (simp; omega)) ?_
          intro v3 w3 hown3 hb3 hg3
          have hbY3 : Below Y.heap.size Y w3 := Below.trans hbY2 hb3
          have hbw3 : Below w.heap.size w w3 := Below.trans hbwY (hbY3.mono hszwY)
          refine hK.out _ _ hbY3 (fun hHeld => ?_)
          clear hK K hb3 hg3
          (try simp only [Act.put, List.setIfInBounds_toArray, List.set_cons_zero, List.set_cons_succ])
          refine wpAnyH_ready (rs := [12]) (by kernel_rfl) (by simp) ?_
          refine (AllReadyH.cons rfl (fun K hK => ?_) AllReadyH.nil)
          go_simp
          refine hK.out _ _ hbY3 (fun hHeld => ?_)
          clear hK K
          (try simp only [Act.put, List.setIfInBounds_toArray, List.set_cons_zero, List.set_cons_succ])
          refine wpAnyH_done (by kernel_rfl) ?_ _
          go_wp2_with fail
          go_ret
          exact ⟨⟨_, rfl, owns_base (own_castk21 hown3 (by have := hRl.out; have := hm2'.out; omega) f1.out) hszwY⟩, hbw3⟩
    · obtain rfl : k = L.length := by omega
      have hs4 : Hid (R = L.take L.length ++ ⟨ea, ep, eb, eq⟩ :: L.drop L.length) := by
        show _ = _
        rw [← hR.out, insK_at (Nat.le_refl _) hno.out (fun h => by omega)]
      have hltD : decide ((L.length : Int) < (L.length : Int)) = false := by simp
      clear hno
      go_wp2_with fail
      refine wp_region_gw (by kernel_rfl) (by kernel_rfl) ?_
      repeat (go_big_quiet_step (fail))
      refine wpQuiet_nil ?_
      intro w1 hw1
      obtain ⟨q, rfl⟩ := hw1
      go_upto_region 4 with fail
      refine wp_named ?_
      intro Y hY
      have hbY : Below W.heap.size W Y := by rw [hY]; exact bBel
      clear hY
      have kY := blk_below hbY kP
      obtain ⟨A1, s1, r1, r1', z1, q1, p1⟩ := own_hi21 u_keys hi hz1 hown L.length hk L.length rfl
      obtain ⟨A2, s2, r2, r2', z2, q2, p2⟩ := own_lo21 u_keys hi hz1 hown L.length hk L.length rfl
      rw [kv_take22] at p1
      rw [kv_drop22] at p2
      have e1 : (kv (L.take L.length)).length = L.length * 4 := by rw [kv_len, List.length_take, Nat.min_eq_left hk]
      have e2 : (kv (L.drop L.length)).length = (L.length - L.length) * 4 := by rw [kv_len, List.length_drop]
      have g1 := kv_one22 (L.take L.length)
      have g2 := kv_one22 (L.drop L.length)
      have f1 : Hid ([] ++ kv (L.take L.length) ++ [.int .i64 ea, .int .i64 ep, .int .i64 eb, .int .i64 eq] ++ kv (L.drop L.length) = kv R) := by
        show _ = _
        rw [hs4.out, List.nil_append]
        simp [kv, kyc]
      have hRl : Hid (R.length = L.length + 1) := by show _ = _; rw [hs4.out]; simp <;> omega
      generalize hm2 : L.length - L.length = m2 at *
      have hm2' : Hid (L.length - L.length = m2) := hm2
      have hm2l : m2 ≤ 1000000 := by omega
      clear hm2
      generalize kv (L.take L.length) = Y1 at *
      generalize kv (L.drop L.length) = Y2 at *
      have hszY := hbY.size
      have hbwY := Below.trans hbW (hbY.mono hbW.size)
      have hszwY := hbwY.size
      have hLk : ∀ w', Below Y.heap.size Y w' → w'.rangeAt w.heap.size 0 [.int .i64 ea, .int .i64 ep, .int .i64 eb, .int .i64 eq] := fun w' h' => rng_blk22I (l := [.int .i64 ea, .int .i64 ep, .int .i64 eb, .int .i64 eq]) (blk_below h' kY)
      refine wp_region_held_drew (S := fun w' => Below Y.heap.size Y w') (by kernel_rfl) bBel (fun hHeld => ?_)
      refine wpAnyH_take (i := 1) (v := ?_) rfl (by kernel_rfl) (by kernel_rfl) (by kernel_rfl) (fun _ _ _ h => h) (Or.inl ⟨by rfl, ?_⟩) (by assumption) ?_
      rotate_left
      · intro w0 hS0
        go_simp
        all_goals (with_reducible rfl)
      (try simp only [Act.put, List.setIfInBounds_toArray, List.set_cons_zero, List.set_cons_succ])
      refine wpAnyH_take (i := 2) (v := ?_) rfl (by kernel_rfl) (by kernel_rfl) (by kernel_rfl) (fun _ _ _ h => h) (Or.inl ⟨by rfl, ?_⟩) (by assumption) ?_
      rotate_left
      · intro w0 hS0
        go_simp
        all_goals (with_reducible rfl)
      (try simp only [Act.put, List.setIfInBounds_toArray, List.set_cons_zero, List.set_cons_succ])
      refine wpAnyH_take (i := 3) (v := ?_) rfl (by kernel_rfl) (by kernel_rfl) (by kernel_rfl) (fun _ _ _ h => h) (Or.inl ⟨by rfl, ?_⟩) (by assumption) ?_
      rotate_left
      · intro w0 hS0
        go_simp
        all_goals (with_reducible rfl)
      (try simp only [Act.put, List.setIfInBounds_toArray, List.set_cons_zero, List.set_cons_succ])
      refine wpAnyH_take (i := 5) rfl (by kernel_rfl) (by kernel_rfl) (by kernel_rfl) (fun _ _ _ h => h) (yieldsIf_load_mid (by rfl) 60 _ rfl w.heap.size 0 rfl _ _ hLk Tryz.underlying60 rfl (by kernel_rfl)) (by assumption) ?_
      (try simp only [Act.put, List.setIfInBounds_toArray, List.set_cons_zero, List.set_cons_succ])
      refine wpAnyH_take (i := 8) (v := ?_) rfl (by kernel_rfl) (by kernel_rfl) (by kernel_rfl) (fun _ _ _ h => h) (Or.inl ⟨by rfl, ?_⟩) (by assumption) ?_
      rotate_left
      · intro w0 hS0
        go_simp
        all_goals (with_reducible rfl)
      (try simp only [Act.put, List.setIfInBounds_toArray, List.set_cons_zero, List.set_cons_succ])
      refine wpAnyH_take (i := 9) (v := ?_) rfl (by kernel_rfl) (by kernel_rfl) (by kernel_rfl) (fun _ _ _ h => h) (Or.inl ⟨by rfl, ?_⟩) (by assumption) ?_
      rotate_left
      · intro w0 hS0
        go_simp
        all_goals (with_reducible rfl)
      (try simp only [Act.put, List.setIfInBounds_toArray, List.set_cons_zero, List.set_cons_succ])
      refine wpAnyH_take (i := 10) (v := ?_) rfl (by kernel_rfl) (by kernel_rfl) (by kernel_rfl) (fun _ _ _ h => h) (Or.inl ⟨by rfl, ?_⟩) (by assumption) ?_
      rotate_left
      · intro w0 hS0
        go_simp
        all_goals (with_reducible rfl)
      (try simp only [Act.put, List.setIfInBounds_toArray, List.set_cons_zero, List.set_cons_succ])
      refine wpAnyH_ready (rs := [0, 6]) (by kernel_rfl) (by simp) ?_
      refine (AllReadyH.cons rfl (fun K hK => ?_) (AllReadyH.cons rfl (fun K hK => ?_) AllReadyH.nil))
      · skip
        go_simp
        refine hK.out _ _ bBel (fun hHeld => ?_)
        clear hK K
        (try simp only [Act.put, List.setIfInBounds_toArray, List.set_cons_zero, List.set_cons_succ])
        refine wpAnyH_ready (rs := [4, 6]) (by kernel_rfl) (by simp) ?_
        refine (AllReadyH.cons rfl (fun K hK => ?_) (AllReadyH.cons rfl (fun K hK => ?_) AllReadyH.nil))
        · skip
          rw [if_pos (by rfl)]
          refine wp_appE22 _ _ 27 rfl Y.heap.size 60 i0 (.agg #[.int .i64 0, .int .i64 0, .int .i64 0, .int .i64 0]) 4 32 u_keys hi hz0 hz1 hz2 rfl (by decide) _ 0 [] rfl (own_nil21 bBkn (by first | omega | (simp; done) | (simp; omega))) A1 L.length s1 Y1 rfl z1 q1 e1 (Cs.to p1 bBel) g1 (by unfold maxLen; omega) (by omega) (by first | omega | (simp; done) | (simp; omega)) ?_
          intro v1 w1 hown1 hb1 hg1
          have hbY1 : Below Y.heap.size Y w1 := by refine Below.trans ?_ hb1; exact bBel
          have hbw1 : Below w.heap.size w w1 := Below.trans hbwY (hbY1.mono hszwY)
          have hszY1 := hbY1.size
          have hszw1 := hbw1.size
          refine hK.out _ _ hbY1 (fun hHeld => ?_)
          clear hK K hb1 hg1
          (try simp only [Act.put, List.setIfInBounds_toArray, List.set_cons_zero, List.set_cons_succ])
          refine wpAnyH_ready (rs := [6]) (by kernel_rfl) (by simp) ?_
          refine (AllReadyH.cons rfl (fun K hK => ?_) AllReadyH.nil)
          go_simp
          refine hK.out _ _ bBel (fun hHeld => ?_)
          clear hK K
          (try simp only [Act.put, List.setIfInBounds_toArray, List.set_cons_zero, List.set_cons_succ])
          refine wpAnyH_ready (rs := [7]) (by kernel_rfl) (by simp) ?_
          refine (AllReadyH.cons rfl (fun K hK => ?_) AllReadyH.nil)
          rw [if_pos (by rfl)]
          refine wp_appE22 _ _ 27 rfl Y.heap.size 60 i0 (.agg #[.int .i64 0, .int .i64 0, .int .i64 0, .int .i64 0]) 4 32 u_keys hi hz0 hz1 hz2 rfl (by decide) _ _ _ rfl (owns_below hown1 bBel) (some ⟨_, 0, none⟩) 1 1 [.int .i64 ea, .int .i64 ep, .int .i64 eb, .int .i64 eq] rfl (fun h => by cases h) (Nat.le_refl _) rfl (cs_blk22 (t := 60) bBkn) (by intro u hu; simp at hu; rcases hu with rfl | rfl | rfl | rfl <;> rfl) (by unfold maxLen; omega) (by omega) (by first | omega | (simp; done) | (simp; omega)) ?_
          intro v2 w2 hown2 hb2 hg2
          have hbY2 : Below Y.heap.size Y w2 := by refine Below.trans ?_ hb2; exact bBel
          have hbw2 : Below w.heap.size w w2 := Below.trans hbwY (hbY2.mono hszwY)
          have hszY2 := hbY2.size
          have hszw2 := hbw2.size
          refine hK.out _ _ hbY2 (fun hHeld => ?_)
          clear hK K hb2 hg2
          (try simp only [Act.put, List.setIfInBounds_toArray, List.set_cons_zero, List.set_cons_succ])
          refine wpAnyH_ready (rs := [11]) (by kernel_rfl) (by simp) ?_
          refine (AllReadyH.cons rfl (fun K hK => ?_) AllReadyH.nil)
          rw [if_pos (by rfl)]
          refine wp_appE22 _ _ 27 rfl Y.heap.size 60 i0 (.agg #[.int .i64 0, .int .i64 0, .int .i64 0, .int .i64 0]) 4 32 u_keys hi hz0 hz1 hz2 rfl (by decide) _ _ _ rfl hown2 A2 m2 s2 Y2 rfl z2 q2 e2 (Cs.to p2 hbw2) g2 (by unfold maxLen; omega) (by omega) (by first | omega | (simp; done) | (simp; omega)) ?_
          intro v3 w3 hown3 hb3 hg3
          have hbY3 : Below Y.heap.size Y w3 := Below.trans hbY2 hb3
          have hbw3 : Below w.heap.size w w3 := Below.trans hbwY (hbY3.mono hszwY)
          refine hK.out _ _ hbY3 (fun hHeld => ?_)
          clear hK K hb3 hg3
          (try simp only [Act.put, List.setIfInBounds_toArray, List.set_cons_zero, List.set_cons_succ])
          refine wpAnyH_ready (rs := [12]) (by kernel_rfl) (by simp) ?_
          refine (AllReadyH.cons rfl (fun K hK => ?_) AllReadyH.nil)
          go_simp
          refine hK.out _ _ hbY3 (fun hHeld => ?_)
          clear hK K
          (try simp only [Act.put, List.setIfInBounds_toArray, List.set_cons_zero, List.set_cons_succ])
          refine wpAnyH_done (by kernel_rfl) ?_ _
          go_wp2_with fail
          go_ret
          exact ⟨⟨_, rfl, owns_base (own_castk21 hown3 (by have := hRl.out; have := hm2'.out; omega) f1.out) hszwY⟩, hbw3⟩
        · skip
          go_simp
          refine hK.out _ _ bBel (fun hHeld => ?_)
          clear hK K
          (try simp only [Act.put, List.setIfInBounds_toArray, List.set_cons_zero, List.set_cons_succ])
          refine wpAnyH_ready (rs := [4]) (by kernel_rfl) (by simp) ?_
          refine (AllReadyH.cons rfl (fun K hK => ?_) AllReadyH.nil)
          rw [if_pos (by rfl)]
          refine wp_appE22 _ _ 27 rfl Y.heap.size 60 i0 (.agg #[.int .i64 0, .int .i64 0, .int .i64 0, .int .i64 0]) 4 32 u_keys hi hz0 hz1 hz2 rfl (by decide) _ 0 [] rfl (own_nil21 bBkn (by first | omega | (simp; done) | (simp; omega))) A1 L.length s1 Y1 rfl z1 q1 e1 (Cs.to p1 bBel) g1 (by unfold maxLen; omega) (by omega) (by first | omega | (simp; done) | (simp; omega)) ?_
          intro v1 w1 hown1 hb1 hg1
          have hbY1 : Below Y.heap.size Y w1 := by refine Below.trans ?_ hb1; exact bBel
          have kK : blk w1 (Y.heap.size + 1) #[.int .i64 ea, .int .i64 ep, .int .i64 eb, .int .i64 eq] 60 := blk_grown20 hg1 bBkn (show (some (Y.heap.size) : Option Nat) ≠ some ((Y.heap.size + 1)) by simp)
          have hbw1 : Below w.heap.size w w1 := Below.trans hbwY (hbY1.mono hszwY)
          have hszY1 := hbY1.size
          have hszw1 := hbw1.size
          refine hK.out _ _ hbY1 (fun hHeld => ?_)
          clear hK K hb1 hg1
          (try simp only [Act.put, List.setIfInBounds_toArray, List.set_cons_zero, List.set_cons_succ])
          refine wpAnyH_ready (rs := [7]) (by kernel_rfl) (by simp) ?_
          refine (AllReadyH.cons rfl (fun K hK => ?_) AllReadyH.nil)
          rw [if_pos (by rfl)]
          refine wp_appE22 _ _ 27 rfl Y.heap.size 60 i0 (.agg #[.int .i64 0, .int .i64 0, .int .i64 0, .int .i64 0]) 4 32 u_keys hi hz0 hz1 hz2 rfl (by decide) _ _ _ rfl hown1 (some ⟨_, 0, none⟩) 1 1 [.int .i64 ea, .int .i64 ep, .int .i64 eb, .int .i64 eq] rfl (fun h => by cases h) (Nat.le_refl _) rfl (cs_blk22 (t := 60) kK) (by intro u hu; simp at hu; rcases hu with rfl | rfl | rfl | rfl <;> rfl) (by unfold maxLen; omega) (by omega) (by first | omega | (simp; done) | (simp; omega)) ?_
          intro v2 w2 hown2 hb2 hg2
          have hbY2 : Below Y.heap.size Y w2 := by refine Below.trans ?_ hb2; exact bBel
          have hbw2 : Below w.heap.size w w2 := Below.trans hbwY (hbY2.mono hszwY)
          have hszY2 := hbY2.size
          have hszw2 := hbw2.size
          refine hK.out _ _ hbY2 (fun hHeld => ?_)
          clear hK K hb2 hg2
          (try simp only [Act.put, List.setIfInBounds_toArray, List.set_cons_zero, List.set_cons_succ])
          refine wpAnyH_ready (rs := [11]) (by kernel_rfl) (by simp) ?_
          refine (AllReadyH.cons rfl (fun K hK => ?_) AllReadyH.nil)
          rw [if_pos (by rfl)]
          refine wp_appE22 _ _ 27 rfl Y.heap.size 60 i0 (.agg #[.int .i64 0, .int .i64 0, .int .i64 0, .int .i64 0]) 4 32 u_keys hi hz0 hz1 hz2 rfl (by decide) _ _ _ rfl hown2 A2 m2 s2 Y2 rfl z2 q2 e2 (Cs.to p2 hbw2) g2 (by unfold maxLen; omega) (by omega) (by first | omega | (simp; done) | (simp; omega)) ?_
          intro v3 w3 hown3 hb3 hg3
          have hbY3 : Below Y.heap.size Y w3 := Below.trans hbY2 hb3
          have hbw3 : Below w.heap.size w w3 := Below.trans hbwY (hbY3.mono hszwY)
          refine hK.out _ _ hbY3 (fun hHeld => ?_)
          clear hK K hb3 hg3
          (try simp only [Act.put, List.setIfInBounds_toArray, List.set_cons_zero, List.set_cons_succ])
          refine wpAnyH_ready (rs := [12]) (by kernel_rfl) (by simp) ?_
          refine (AllReadyH.cons rfl (fun K hK => ?_) AllReadyH.nil)
          go_simp
          refine hK.out _ _ hbY3 (fun hHeld => ?_)
          clear hK K
          (try simp only [Act.put, List.setIfInBounds_toArray, List.set_cons_zero, List.set_cons_succ])
          refine wpAnyH_done (by kernel_rfl) ?_ _
          go_wp2_with fail
          go_ret
          exact ⟨⟨_, rfl, owns_base (own_castk21 hown3 (by have := hRl.out; have := hm2'.out; omega) f1.out) hszwY⟩, hbw3⟩
      · skip
        go_simp
        refine hK.out _ _ bBel (fun hHeld => ?_)
        clear hK K
        (try simp only [Act.put, List.setIfInBounds_toArray, List.set_cons_zero, List.set_cons_succ])
        refine wpAnyH_ready (rs := [0]) (by kernel_rfl) (by simp) ?_
        refine (AllReadyH.cons rfl (fun K hK => ?_) AllReadyH.nil)
        go_simp
        refine hK.out _ _ bBel (fun hHeld => ?_)
        clear hK K
        (try simp only [Act.put, List.setIfInBounds_toArray, List.set_cons_zero, List.set_cons_succ])
        refine wpAnyH_ready (rs := [4]) (by kernel_rfl) (by simp) ?_
        refine (AllReadyH.cons rfl (fun K hK => ?_) AllReadyH.nil)
        rw [if_pos (by rfl)]
        refine wp_appE22 _ _ 27 rfl Y.heap.size 60 i0 (.agg #[.int .i64 0, .int .i64 0, .int .i64 0, .int .i64 0]) 4 32 u_keys hi hz0 hz1 hz2 rfl (by decide) _ 0 [] rfl (own_nil21 bBkn (by first | omega | (simp; done) | (simp; omega))) A1 L.length s1 Y1 rfl z1 q1 e1 (Cs.to p1 bBel) g1 (by unfold maxLen; omega) (by omega) (by first | omega | (simp; done) | (simp; omega)) ?_
        intro v1 w1 hown1 hb1 hg1
        have hbY1 : Below Y.heap.size Y w1 := by refine Below.trans ?_ hb1; exact bBel
        have kK : blk w1 Y.heap.size #[.int .i64 ea, .int .i64 ep, .int .i64 eb, .int .i64 eq] 60 := blk_grown20 hg1 bBkn (show (some (Y.heap.size + 1) : Option Nat) ≠ some (Y.heap.size) by simp)
        have hbw1 : Below w.heap.size w w1 := Below.trans hbwY (hbY1.mono hszwY)
        have hszY1 := hbY1.size
        have hszw1 := hbw1.size
        refine hK.out _ _ hbY1 (fun hHeld => ?_)
        clear hK K hb1 hg1
        (try simp only [Act.put, List.setIfInBounds_toArray, List.set_cons_zero, List.set_cons_succ])
        refine wpAnyH_ready (rs := [7]) (by kernel_rfl) (by simp) ?_
        refine (AllReadyH.cons rfl (fun K hK => ?_) AllReadyH.nil)
        rw [if_pos (by rfl)]
        refine wp_appE22 _ _ 27 rfl Y.heap.size 60 i0 (.agg #[.int .i64 0, .int .i64 0, .int .i64 0, .int .i64 0]) 4 32 u_keys hi hz0 hz1 hz2 rfl (by decide) _ _ _ rfl hown1 (some ⟨_, 0, none⟩) 1 1 [.int .i64 ea, .int .i64 ep, .int .i64 eb, .int .i64 eq] rfl (fun h => by cases h) (Nat.le_refl _) rfl (cs_blk22 (t := 60) kK) (by intro u hu; simp at hu; rcases hu with rfl | rfl | rfl | rfl <;> rfl) (by unfold maxLen; omega) (by omega) (by first | omega | (simp; done) | (simp; omega)) ?_
        intro v2 w2 hown2 hb2 hg2
        have hbY2 : Below Y.heap.size Y w2 := by refine Below.trans ?_ hb2; exact bBel
        have hbw2 : Below w.heap.size w w2 := Below.trans hbwY (hbY2.mono hszwY)
        have hszY2 := hbY2.size
        have hszw2 := hbw2.size
        refine hK.out _ _ hbY2 (fun hHeld => ?_)
        clear hK K hb2 hg2
        (try simp only [Act.put, List.setIfInBounds_toArray, List.set_cons_zero, List.set_cons_succ])
        refine wpAnyH_ready (rs := [11]) (by kernel_rfl) (by simp) ?_
        refine (AllReadyH.cons rfl (fun K hK => ?_) AllReadyH.nil)
        rw [if_pos (by rfl)]
        refine wp_appE22 _ _ 27 rfl Y.heap.size 60 i0 (.agg #[.int .i64 0, .int .i64 0, .int .i64 0, .int .i64 0]) 4 32 u_keys hi hz0 hz1 hz2 rfl (by decide) _ _ _ rfl hown2 A2 m2 s2 Y2 rfl z2 q2 e2 (Cs.to p2 hbw2) g2 (by unfold maxLen; omega) (by omega) (by first | omega | (simp; done) | (simp; omega)) ?_
        intro v3 w3 hown3 hb3 hg3
        have hbY3 : Below Y.heap.size Y w3 := Below.trans hbY2 hb3
        have hbw3 : Below w.heap.size w w3 := Below.trans hbwY (hbY3.mono hszwY)
        refine hK.out _ _ hbY3 (fun hHeld => ?_)
        clear hK K hb3 hg3
        (try simp only [Act.put, List.setIfInBounds_toArray, List.set_cons_zero, List.set_cons_succ])
        refine wpAnyH_ready (rs := [12]) (by kernel_rfl) (by simp) ?_
        refine (AllReadyH.cons rfl (fun K hK => ?_) AllReadyH.nil)
        go_simp
        refine hK.out _ _ hbY3 (fun hHeld => ?_)
        clear hK K
        (try simp only [Act.put, List.setIfInBounds_toArray, List.set_cons_zero, List.set_cons_succ])
        refine wpAnyH_done (by kernel_rfl) ?_ _
        go_wp2_with fail
        go_ret
        exact ⟨⟨_, rfl, owns_base (own_castk21 hown3 (by have := hRl.out; have := hm2'.out; omega) f1.out) hszwY⟩, hbw3⟩

end Go.Proofs.YtaahgblkmajceaaGreat
