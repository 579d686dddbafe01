/- Chapter 20: the reference's Insert, Remove, Update. -/
import Derived.Test.YtdldlcibjjccpaaByB
import Derived.Deep.DeepCutAuto
set_option linter.unusedVariables false
set_option linter.unusedSimpArgs false
namespace Go.Proofs.Ytdldlcibjjccpaa
open Go.RowKit Fx

/-- 'append(out, xs...)', out nil or the call's own, elements of sz cells. -/
theorem wpList_appE {P : Program} {w : World} {ops : Array Oper} {rest : List Oper} {o : Oper} {a : Act} {Q : Exit → Act → World → Prop} (hg : o.guard = none) (s x : Operand) (t : TypeId)
    (ho : o.op = .call { callee := .builtin .append, args := #[s, x], argTypes := #[t, t] })
    (B : Nat) (e : TypeId) (i : TypeInfo) (z : Value) (sz bytes : Nat) (ht : P.underlying t = some (.slice e)) (hi : P.info? e = some i) (hz : i.zero = some z) (hsize : i.size = sz) (hby : i.bytes = bytes) (hzs : z.cells.size = sz) (hsz : 0 < sz)
    (v : Value) (n : Nat) (xs : List Value) (hs : a.eval s = v) (hown : w.ownsRow B e sz v n xs) (X : Option Addr) (m c : Nat) (ys : List Value) (hx : a.eval x = .slice X m c) (hnil : X = none → c = 0) (hmc : m ≤ c) (hl : ys.length = m * sz) (hcs : Cs w X ys) (h1 : ∀ u ∈ ys, u.oneCell' = true)
    (h63 : n + m ≤ maxLen) (hbytes : (n + m) * bytes ≤ 140737488355328) (hB : B ≤ w.heap.size)
    (h : ∀ v' w', w'.ownsRow B e sz v' (n + m) (xs ++ ys) → Below B w w' → wpList P ops Q rest (a.put o.dst v') w') : wpList P ops Q (o :: rest) a w := by
  cases X with
  | none =>
    obtain rfl := hnil rfl
    obtain rfl : m = 0 := by omega
    have hn : ys = [] := List.eq_nil_of_length_eq_zero (by omega)
    subst hn
    refine wpList_plain hg fun K hK' => ?_
    have hrun := run_append_owned_none (P := P) w B t o.type e i sz ht hi v n xs hown
    unfold Oper.wp
    simp [execOp, ho, resolve, invoke, builtin, hs, hx, hrun, Result.andThen]
    exact hK' _ _ (h v w (by simpa using hown) (Below.refl _ _))
  | some ad =>
    refine wpList_append_own w hg s x t ho B e i z sz bytes ht hi hz hsize hby hzs hsz v n xs hs hown ad m c ys hx hl (cs_at hcs) h1 h63 hbytes hB (fun v' w' h2 h3 _ => h v' w' h2 ?_)
    refine ⟨h3.os, h3.tape, h3.output, h3.size, fun k hk => h3.block k (by omega) fun hk' => ?_⟩
    obtain ⟨_, ⟨rfl, _⟩ | ⟨g, cap, cur, rfl, hBg, _⟩⟩ := hown
    · simp [Value.ownBlock] at hk'
    · simp [Value.ownBlock] at hk'; omega
theorem own_castk {w : World} {B n n' k : Nat} {e : TypeId} {v : Value} {xs xs' : List Value} (h : w.ownsRow B e k v n xs) (hn : n = n') (hx : xs = xs') : w.ownsRow B e k v n' xs' := by subst hn; subst hx; exact h
theorem own_lit {w : World} {B n k : Nat} {e : TypeId} {v : Value} {xs : List Value} (h : w.ownsRow B e k v n xs) : ∃ A cap, v = .slice A n cap := by
  obtain ⟨_, ⟨rfl, rfl⟩ | ⟨g, cap, _, rfl, _⟩⟩ := h
  · exact ⟨none, 0, rfl⟩
  · exact ⟨_, _, rfl⟩
theorem turnsR_mk {m n : Nat} {L' : Bxs} {nl : Bool} {R : Nat → Prop} {w w6 Z : World} {v1 v2 : Value} {B1 B2 : Nat} (hn : L'.length = n) (sm : R m) (hs : Srt L') (hl : L'.length ≤ 4096) (hm : m < w.heap.size) (hw : Below w.heap.size w w6) (hBZ : But (fun k => k = m) w6 Z) (kZ : blk Z m #[v1, v2, .bool nl] 52) (o1 : w6.ownsRow B1 3 1 v1 n (iv (ids L'))) (o2 : w6.ownsRow B2 26 4 v2 n (bxv L')) (hB1 : w.heap.size ≤ B1) (hB2 : w.heap.size ≤ B2) : TurnsR m L' nl R w Z := by
  subst hn
  have q1 := World.ownsRow.lt o1
  have q2 := World.ownsRow.lt o2
  have hz := hw.size
  have hz2 := hBZ.size
  refine ⟨fun k => k = m ∨ v1.ownBlock = some k ∨ v2.ownBlock = some k, ⟨?_, .inl rfl, hs, hl, v1, v2, kZ, ?_, ?_, fun g hg => .inr (.inl hg), fun g hg => .inr (.inr hg)⟩, ((But.ofBelow hw fun k => k = m).trans hBZ fun _ _ h => h).mono ?_, ?_⟩
  · rintro k (rfl | h | h)
    · omega
    · have := q1 k h; omega
    · have := q2 k h; omega
  · exact owns_base (owns_but o1 hBZ fun k hk e => by have := q1 k hk; omega) (Nat.zero_le _)
  · exact owns_base (owns_but o2 hBZ fun k hk e => by have := q2 k hk; omega) (Nat.zero_le _)
  · rintro k _ rfl; exact sm
  · rintro k (rfl | h | h)
    · exact .inl sm
    · exact .inr (by have := q1 k h; omega)
    · exact .inr (by have := q2 k h; omega)

theorem insC_case (L : Bxs) (i x0 y0 x1 y1 : Int) (hl : L.length ≤ 4096) : (val4 x0 y0 x1 y1 = false ∧ insC L i ⟨x0, y0, x1, y1⟩ = 2) ∨ (val4 x0 y0 x1 y1 = true ∧ (look L i).isSome = true ∧ insC L i ⟨x0, y0, x1, y1⟩ = 7) ∨ (val4 x0 y0 x1 y1 = true ∧ (look L i).isSome = false ∧ L.length = 4096 ∧ insC L i ⟨x0, y0, x1, y1⟩ = 9) ∨ (val4 x0 y0 x1 y1 = true ∧ (look L i).isSome = false ∧ L.length < 4096 ∧ insC L i ⟨x0, y0, x1, y1⟩ = 0) := by
  unfold insC
  rw [val4_eq]
  cases h1 : val4 x0 y0 x1 y1
  · exact .inl ⟨rfl, by simp⟩
  · cases h2 : (look L i).isSome
    · by_cases h3 : 4096 ≤ L.length
      · exact .inr (.inr (.inl ⟨rfl, rfl, by omega, by simp [h3]⟩))
      · exact .inr (.inr (.inr ⟨rfl, rfl, by omega, by simp [h3]⟩))
    · exact .inr (.inl ⟨rfl, rfl, by simp⟩)

set_option maxRecDepth 100000 in
set_option maxHeartbeats 8000000 in
theorem rins_no (m : Nat) (L : Bxs) (R : Nat → Prop) (i x0 y0 x1 y1 : Int) (K : Nat) (f V : Bool) (c : Int) (hF : FindAt L i K f) (hV : val4 x0 y0 x1 y1 = V) (w : World) (h : RefAt w m L false R) (hc : (V = false ∧ c = 2) ∨ (V = true ∧ f = true ∧ c = 7) ∨ (V = true ∧ f = false ∧ L.length = 4096 ∧ c = 9)) : Calls Try.prog 41 #[.pointer (some ⟨m, 0, none⟩), .int .i64 i, .agg #[.int .i64 x0, .int .i64 y0, .int .i64 x1, .int .i64 y1]] w fun e w' => e = .returned (.int .i64 c) ∧ Below w.heap.size w w' := by
  have cF := fun w' hh => rfind_b m L false R i K f hF w' hh
  have h0 := h
  obtain ⟨v1, v2, kt, h1, -, -, -⟩ := h.mem
  have l1 := fun ty W => row_len u_ints h1 ty W
  have cV := fun w' => rxval_b x0 y0 x1 y1 w'
  rw [hV] at cV
  have hltt := blk_lt kt
  clear hV hF h h1
  have A : Hid (∀ w', Below w.heap.size w w' → blk w' m #[v1, v2, .bool false] 52) := show ∀ w', Below w.heap.size w w' → blk w' m #[v1, v2, .bool false] 52 from fun w' hb => blk_below hb kt
  go_enter Try.func41, Try.ntmps41
  go_upto_region 1 with fail
  refine wp_named ?_
  intro X hX
  have hbX : Below w.heap.size w X := by rw [hX]; exact bBel
  have kq : blk X w.heap.size #[.int .i64 x0, .int .i64 y0, .int .i64 x1, .int .i64 y1] 26 := by rw [hX]; exact bBkn
  clear hX
  have ktX := A.out X hbX
  have hzX := hbX.size
  have oktX := blk_older ktX
  have cktX_0 : _ = some _ := blk_cell ktX 0
  have cktX_1 : _ = some _ := blk_cell ktX 1
  have cktX_2 : _ = some _ := blk_cell ktX 2
  have fktX_0 := blk_free ktX 0
  have fktX_1 := blk_free ktX 1
  have fktX_2 := blk_free ktX 2
  go_upto_region 4 with (go_at_call 59; refine Calls.mono (gw_at (cF _ (h0.below bBel))) ?_; rintro e w1 ⟨rfl, qF, rfl⟩)
  refine wp_named ?_
  intro Y hY
  have hbY : Below w.heap.size w Y := by rw [hY]; exact bBel
  have kqY : blk Y w.heap.size #[.int .i64 x0, .int .i64 y0, .int .i64 x1, .int .i64 y1] 26 := by rw [hY]; exact (by apply blk_of; (repeat (first | with_reducible exact kq | with_reducible apply blk_drew | with_reducible apply blk_gw | with_reducible apply blk_alloc | with_reducible apply blk_set | ((with_reducible apply blk_other); focus omega))); (first | rfl | simp))
  clear hY cF h0 hbX kq ktX hzX
  have ktY := A.out Y hbY
  have hzY := hbY.size
  have oktY := blk_older ktY
  have cktY_0 : _ = some _ := blk_cell ktY 0
  have cktY_1 : _ = some _ := blk_cell ktY 1
  have cktY_2 : _ = some _ := blk_cell ktY 2
  have fktY_0 := blk_free ktY 0
  have fktY_1 := blk_free ktY 1
  have fktY_2 := blk_free ktY 2
  have okqY := blk_older kqY
  have ckqY_0 : _ = some _ := blk_cell kqY 0
  have ckqY_1 : _ = some _ := blk_cell kqY 1
  have ckqY_2 : _ = some _ := blk_cell kqY 2
  have ckqY_3 : _ = some _ := blk_cell kqY 3
  have fkqY_0 := blk_free kqY 0
  have fkqY_1 := blk_free kqY 1
  have fkqY_2 := blk_free kqY 2
  have fkqY_3 := blk_free kqY 3
  rcases hc with ⟨rfl, rfl⟩ | ⟨rfl, rfl, rfl⟩ | ⟨rfl, rfl, hl, rfl⟩
  · go_wp2_with (go_at_call 60; refine Calls.mono (gw_at (cV _)) ?_; rintro e w1 ⟨rfl, qV, rfl⟩)
    go_ret
    exact ⟨rfl, bBel⟩
  · go_wp2_with (go_at_call 60; refine Calls.mono (gw_at (cV _)) ?_; rintro e w1 ⟨rfl, qV, rfl⟩)
    go_ret
    exact ⟨rfl, bBel⟩
  · rw [hl] at l1
    go_wp2_with (go_at_call 60; refine Calls.mono (gw_at (cV _)) ?_; rintro e w1 ⟨rfl, qV, rfl⟩)
    go_ret
    exact ⟨rfl, bBel⟩

set_option maxRecDepth 100000 in
set_option maxHeartbeats 16000000 in
theorem rins_yes (m : Nat) (L : Bxs) (R : Nat → Prop) (i x0 y0 x1 y1 : Int) (K : Nat) (hF : FindAt L i K false) (hV : val4 x0 y0 x1 y1 = true) (hlt : L.length < 4096) (w : World) (h : RefAt w m L false R) : Calls Try.prog 41 #[.pointer (some ⟨m, 0, none⟩), .int .i64 i, .agg #[.int .i64 x0, .int .i64 y0, .int .i64 x1, .int .i64 y1]] w fun e w' => e = .returned (.int .i64 0) ∧ TurnsR m (insL L i ⟨x0, y0, x1, y1⟩) false R w w' := by
  obtain ⟨i0, hi, hz0, hz1, hz2⟩ := info_parts info_int20
  obtain ⟨j0, hj, hy0, hy1, hy2⟩ := info_parts info_bx20
  have cF := fun w' hh => rfind_b m L false R i K false hF w' hh
  have h0 := h
  obtain ⟨v1, v2, kt, h1, h2, -, -⟩ := h.mem
  have cV := fun w' => rxval_b x0 y0 x1 y1 w'
  rw [hV] at cV
  have hltt := blk_lt kt
  obtain ⟨n, hn'⟩ : ∃ n, L.length = n := ⟨_, rfl⟩
  have hK := hF.le
  have hJ : Hid (insL L i ⟨x0, y0, x1, y1⟩ = L.take K ++ (i, ⟨x0, y0, x1, y1⟩) :: L.drop K) := hF.ins _
  have hlen : Hid ((insL L i ⟨x0, y0, x1, y1⟩).length = n + 1) := by show _ = _; rw [hJ.out]; simp; omega
  have hsrt : Hid (Srt (insL L i ⟨x0, y0, x1, y1⟩)) := insL_srt _ h.srt (look_none.1 (hF.lookF h.srt))
  rw [hn'] at hlt h1 h2 hK
  have hn : Hid (L.length = n) := hn'
  have l1 := fun ty W => row_len u_ints h1 ty W
  obtain ⟨A1, c1, s1, t1, z1, q1, p1⟩ := own_hi u_ints hi hz1 h1 K hK K rfl
  obtain ⟨A2, c2, s2, t2, z2, q2, p2⟩ := own_lo u_ints hi hz1 h1 K hK K rfl
  obtain ⟨A3, c3, s3, t3, z3, q3, p3⟩ := own_hi u_bxs hj hy1 h2 K hK K rfl
  obtain ⟨A4, c4, s4, t4, z4, q4, p4⟩ := own_lo u_bxs hj hy1 h2 K hK K rfl
  rw [show (iv (ids L)).take (K * 1) = iv (ids (L.take K)) by simp [iv, ids, List.map_take]] at p1
  rw [show (iv (ids L)).drop (K * 1) = iv (ids (L.drop K)) by simp [iv, ids, List.map_drop]] at p2
  rw [bxv_take] at p3
  rw [bxv_drop] at p4
  have e1 : (iv (ids (L.take K))).length = K * 1 := by simp [iv]; omega
  have e2 : (iv (ids (L.drop K))).length = (n - K) * 1 := by simp [iv]; omega
  have e3 : (bxv (L.take K)).length = K * 4 := by rw [bxv_len]; simp; omega
  have e4 : (bxv (L.drop K)).length = (n - K) * 4 := by rw [bxv_len]; simp; omega
  have f1 : Hid ([] ++ iv (ids (L.take K)) ++ [.int .i64 i] ++ iv (ids (L.drop K)) = iv (ids (insL L i ⟨x0, y0, x1, y1⟩))) := by show _ = _; rw [hJ.out]; simp [iv]
  have f2 : Hid ([] ++ bxv (L.take K) ++ [.int .i64 x0, .int .i64 y0, .int .i64 x1, .int .i64 y1] ++ bxv (L.drop K) = bxv (insL L i ⟨x0, y0, x1, y1⟩)) := by show _ = _; rw [hJ.out]; simp [bxv, bxc]
  have g1 := iv_one20 (ids (L.take K))
  have g2 := iv_one20 (ids (L.drop K))
  have g3 := bxv_one (L.take K)
  have g4 := bxv_one (L.drop K)
  generalize iv (ids (L.take K)) = Y1 at *
  generalize iv (ids (L.drop K)) = Y2 at *
  generalize bxv (L.take K) = Y3 at *
  generalize bxv (L.drop K) = Y4 at *
  have sm : Hid (R m) := h.sm
  clear hV hF h h1 h2 hJ
  have A : Hid (∀ w6 Z r3 r6 B1 B2, Below w.heap.size w w6 → But (fun k => k = m) w6 Z → blk Z m #[r3, r6, .bool false] 52 → w6.ownsRow B1 3 1 r3 (n + 1) (iv (ids (insL L i ⟨x0, y0, x1, y1⟩))) → w6.ownsRow B2 26 4 r6 (n + 1) (bxv (insL L i ⟨x0, y0, x1, y1⟩)) → w.heap.size ≤ B1 → w.heap.size ≤ B2 → TurnsR m (insL L i ⟨x0, y0, x1, y1⟩) false R w Z) := show ∀ w6 Z r3 r6 B1 B2, _ from fun w6 Z r3 r6 B1 B2 a1 a2 a3 a4 a5 a6 a7 => turnsR_mk hlen.out sm.out hsrt.out (by rw [hlen.out]; omega) hltt a1 a2 a3 a4 a5 a6 a7
  generalize insL L i ⟨x0, y0, x1, y1⟩ = L2 at *
  have f1 : Hid ([] ++ Y1 ++ [.int .i64 i] ++ Y2 = iv (ids L2)) := f1
  clear hlen hsrt sm hn
  have D : Hid (∀ w', Below w.heap.size w w' → blk w' m #[v1, v2, .bool false] 52) := show ∀ w', Below w.heap.size w w' → blk w' m #[v1, v2, .bool false] 52 from fun w' hb => blk_below hb kt
  have P1 : Hid (∀ w', Below w.heap.size w w' → Cs w' A1 Y1) := show ∀ w', Below w.heap.size w w' → Cs w' A1 Y1 from fun w' hb => Cs.to p1 hb
  have P2 : Hid (∀ w', Below w.heap.size w w' → Cs w' A2 Y2) := show ∀ w', Below w.heap.size w w' → Cs w' A2 Y2 from fun w' hb => Cs.to p2 hb
  have P3 : Hid (∀ w', Below w.heap.size w w' → Cs w' A3 Y3) := show ∀ w', Below w.heap.size w w' → Cs w' A3 Y3 from fun w' hb => Cs.to p3 hb
  have P4 : Hid (∀ w', Below w.heap.size w w' → Cs w' A4 Y4) := show ∀ w', Below w.heap.size w w' → Cs w' A4 Y4 from fun w' hb => Cs.to p4 hb
  clear p1 p2 p3 p4
  go_enter Try.func41, Try.ntmps41
  go_upto_region 1 with fail
  refine wp_named ?_
  intro X hX
  have hbX : Below w.heap.size w X := by rw [hX]; exact bBel
  have kq : blk X w.heap.size #[.int .i64 x0, .int .i64 y0, .int .i64 x1, .int .i64 y1] 26 := by rw [hX]; exact bBkn
  clear hX
  have ktX := D.out X hbX
  have hzX := hbX.size
  have oktX := blk_older ktX
  have cktX_0 : _ = some _ := blk_cell ktX 0
  have cktX_1 : _ = some _ := blk_cell ktX 1
  have cktX_2 : _ = some _ := blk_cell ktX 2
  have fktX_0 := blk_free ktX 0
  have fktX_1 := blk_free ktX 1
  have fktX_2 := blk_free ktX 2
  go_upto_region 4 with (go_at_call 59; refine Calls.mono (gw_at (cF _ (h0.below bBel))) ?_; rintro e w1 ⟨rfl, qF, rfl⟩)
  refine wp_named ?_
  intro Y hY
  have hbY : Below w.heap.size w Y := by rw [hY]; exact bBel
  have kqY : blk Y w.heap.size #[.int .i64 x0, .int .i64 y0, .int .i64 x1, .int .i64 y1] 26 := by rw [hY]; exact (by apply blk_of; (repeat (first | with_reducible exact kq | with_reducible apply blk_drew | with_reducible apply blk_gw | with_reducible apply blk_alloc | with_reducible apply blk_set | ((with_reducible apply blk_other); focus omega))); (first | rfl | simp))
  clear hY cF h0 hbX kq ktX hzX oktX cktX_0 cktX_1 cktX_2 fktX_0 fktX_1 fktX_2
  have ktY := D.out Y hbY
  have hzY := hbY.size
  have oktY := blk_older ktY
  have cktY_0 : _ = some _ := blk_cell ktY 0
  have cktY_1 : _ = some _ := blk_cell ktY 1
  have cktY_2 : _ = some _ := blk_cell ktY 2
  have fktY_0 := blk_free ktY 0
  have fktY_1 := blk_free ktY 1
  have fktY_2 := blk_free ktY 2
  have okqY := blk_older kqY
  have ckqY_0 : _ = some _ := blk_cell kqY 0
  have ckqY_1 : _ = some _ := blk_cell kqY 1
  have ckqY_2 : _ = some _ := blk_cell kqY 2
  have ckqY_3 : _ = some _ := blk_cell kqY 3
  have fkqY_0 := blk_free kqY 0
  have fkqY_1 := blk_free kqY 1
  have fkqY_2 := blk_free kqY 2
  have fkqY_3 := blk_free kqY 3
  go_upto_region 12 with (go_at_call 60; refine Calls.mono (gw_at (cV _)) ?_; rintro e w1 ⟨rfl, qV, rfl⟩)
  refine wp_named ?_
  intro V hVV
  have hbV : Below w.heap.size w V := by rw [hVV]; exact bBel
  have kqV : blk V w.heap.size #[.int .i64 x0, .int .i64 y0, .int .i64 x1, .int .i64 y1] 26 := by rw [hVV]; exact (by apply blk_of; (repeat (first | with_reducible exact kqY | with_reducible apply blk_drew | with_reducible apply blk_gw | with_reducible apply blk_alloc | with_reducible apply blk_set | ((with_reducible apply blk_other); focus omega))); (first | rfl | simp))
  clear hVV hbY kqY ktY hzY oktY cktY_0 cktY_1 cktY_2 fktY_0 fktY_1 fktY_2 okqY ckqY_0 ckqY_1 ckqY_2 ckqY_3 fkqY_0 fkqY_1 fkqY_2 fkqY_3 cV l1
  have ktV := D.out V hbV
  have hltq := blk_lt kqV
  have hzV := hbV.size
  have oktV := blk_older ktV
  have cktV_0 : _ = some _ := blk_cell ktV 0
  have cktV_1 : _ = some _ := blk_cell ktV 1
  have cktV_2 : _ = some _ := blk_cell ktV 2
  have fktV_0 := blk_free ktV 0
  have fktV_1 := blk_free ktV 1
  have fktV_2 := blk_free ktV 2
  go_upto_region 13 with (at_builtin; refine wpList_appE rfl _ _ 30 rfl V.heap.size 3 i0 (.int .i64 0) 1 8 (by kernel_rfl) hi hz0 hz1 hz2 rfl (by decide) _ _ _ rfl (World.ownsRow_nil _ _ _ _) _ _ _ Y1 rfl z1 q1 e1 (P1.out _ hbV) g1 (by unfold maxLen; omega) (by omega) (Nat.le_refl _) ?_; intro r1 w1 o1 b1)
  have zb1 := b1.size
  go_upto_region 14 with (at_builtin; refine wpList_appN rfl _ _ 30 rfl V.heap.size 3 i0 (.int .i64 0) 8 (by kernel_rfl) hi hz0 hz1 hz2 rfl _ _ _ rfl (owns_below o1 bBel) _ _ _ [.int .i64 i] rfl (fun h => by cases h) rfl (Cs.of_list (xs := [.int .i64 i]) bBkn) (iv_one20 [i]) (by unfold maxLen; omega) (by omega) (by first | (simp; omega) | omega) ?_; intro r2 w2 o2 b2')
  have b2 : Below V.heap.size V w2 := Below.trans (Below.alloc b1 zb1 _) b2'
  have zb2 := b2.size
  clear b2' o1 b1 zb1 oktV cktV_0 cktV_1 cktV_2 fktV_0 fktV_1 fktV_2
  have hbW2 := hbV.trans (b2.mono hzV)
  have kt2 := D.out w2 hbW2
  have okt2 := blk_older kt2
  have ckt2_0 : _ = some _ := blk_cell kt2 0
  have ckt2_1 : _ = some _ := blk_cell kt2 1
  have ckt2_2 : _ = some _ := blk_cell kt2 2
  have fkt2_0 := blk_free kt2 0
  have fkt2_1 := blk_free kt2 1
  have fkt2_2 := blk_free kt2 2
  go_upto_region 15 with (at_builtin; refine wpList_appE rfl _ _ 30 rfl V.heap.size 3 i0 (.int .i64 0) 1 8 (by kernel_rfl) hi hz0 hz1 hz2 rfl (by decide) _ _ _ rfl o2 _ _ _ Y2 rfl z2 q2 e2 (P2.out _ hbW2) g2 (by unfold maxLen; omega) (by omega) zb2 ?_; intro r3 w3 o3 b3')
  have b3 : Below V.heap.size V w3 := Below.trans b2 b3'
  have zb3 := b3.size
  have O1 := own_castk o3 (show 0 + K + 1 + (n - K) = n + 1 by omega) f1.out
  clear b3' o2 b2 zb2 okt2 ckt2_0 ckt2_1 ckt2_2 fkt2_0 fkt2_1 fkt2_2 kt2 hbW2 o3
  have hbW3 := hbV.trans (b3.mono hzV)
  have kt3 := D.out w3 hbW3
  have kq3 := blk_low kqV b3 hltq
  clear b3 ktV kqV
  generalize hB1 : V.heap.size = B1 at *
  have hB1 : w.heap.size ≤ B1 := hzV
  have okt3 := blk_older kt3
  have ckt3_0 : _ = some _ := blk_cell kt3 0
  have ckt3_1 : _ = some _ := blk_cell kt3 1
  have ckt3_2 : _ = some _ := blk_cell kt3 2
  have fkt3_0 := blk_free kt3 0
  have fkt3_1 := blk_free kt3 1
  have fkt3_2 := blk_free kt3 2
  go_upto_region 16 with (at_builtin; refine wpList_appE rfl _ _ 50 rfl w3.heap.size 26 j0 (.agg #[.int .i64 0, .int .i64 0, .int .i64 0, .int .i64 0]) 4 32 (by kernel_rfl) hj hy0 hy1 hy2 rfl (by decide) _ _ _ rfl (World.ownsRow_nil _ _ _ _) _ _ _ Y3 rfl z3 q3 e3 (P3.out _ hbW3) g3 (by unfold maxLen; omega) (by omega) (Nat.le_refl _) ?_; intro r4 w4 o4 b4)
  have zb4 := b4.size
  have kq4 := blk_below b4 kq3
  have okq4 := blk_older kq4
  have ckq4_0 : _ = some _ := blk_cell kq4 0
  have ckq4_1 : _ = some _ := blk_cell kq4 1
  have ckq4_2 : _ = some _ := blk_cell kq4 2
  have ckq4_3 : _ = some _ := blk_cell kq4 3
  have fkq4_0 := blk_free kq4 0
  have fkq4_1 := blk_free kq4 1
  have fkq4_2 := blk_free kq4 2
  have fkq4_3 := blk_free kq4 3
  go_upto_region 17 with (at_builtin; refine wpList_appM rfl _ _ 50 rfl w3.heap.size 26 j0 (.agg #[.int .i64 0, .int .i64 0, .int .i64 0, .int .i64 0]) 4 32 (by kernel_rfl) hj hy0 hy1 hy2 rfl (by decide) _ _ _ rfl (owns_below o4 bBel) _ [.int .i64 x0, .int .i64 y0, .int .i64 x1, .int .i64 y1] 26 rfl rfl bBkn (bxv_one [(0, ⟨x0, y0, x1, y1⟩)]) (by unfold maxLen; omega) (by omega) (by first | (simp; omega) | omega) ?_; intro r5 w5 o5 b5')
  have b5 : Below w3.heap.size w3 w5 := Below.trans (Below.alloc b4 zb4 _) b5'
  have zb5 := b5.size
  clear b5' o4 b4 zb4 okt3 ckt3_0 ckt3_1 ckt3_2 fkt3_0 fkt3_1 fkt3_2 kt3 okq4 ckq4_0 ckq4_1 ckq4_2 ckq4_3 fkq4_0 fkq4_1 fkq4_2 fkq4_3
  have hzw3 := hbW3.size
  have hbW5 := hbW3.trans (b5.mono hzw3)
  have kt5 := D.out w5 hbW5
  have okt5 := blk_older kt5
  have ckt5_0 : _ = some _ := blk_cell kt5 0
  have ckt5_1 : _ = some _ := blk_cell kt5 1
  have ckt5_2 : _ = some _ := blk_cell kt5 2
  have fkt5_0 := blk_free kt5 0
  have fkt5_1 := blk_free kt5 1
  have fkt5_2 := blk_free kt5 2
  go_upto_region 18 with (at_builtin; refine wpList_appE rfl _ _ 50 rfl w3.heap.size 26 j0 (.agg #[.int .i64 0, .int .i64 0, .int .i64 0, .int .i64 0]) 4 32 (by kernel_rfl) hj hy0 hy1 hy2 rfl (by decide) _ _ _ rfl o5 _ _ _ Y4 rfl z4 q4 e4 (P4.out _ hbW5) g4 (by unfold maxLen; omega) (by omega) zb5 ?_; intro r6 w6 o6 b6')
  have b6 : Below w3.heap.size w3 w6 := Below.trans b5 b6'
  have zb6 := b6.size
  have O2 := own_castk o6 (show 0 + K + 1 + (n - K) = n + 1 by omega) f2.out
  have O1 := owns_below O1 b6
  clear b6' o5 b5 zb5 okt5 ckt5_0 ckt5_1 ckt5_2 fkt5_0 fkt5_1 fkt5_2 kt5 hbW5 o6
  have hbW6 := hbW3.trans (b6.mono hzw3)
  have kt6 := D.out w6 hbW6
  obtain ⟨a1, d1, rfl⟩ := own_lit O1
  obtain ⟨a2, d2, rfl⟩ := own_lit O2
  have okt6 := blk_older kt6
  have ckt6_0 : _ = some _ := blk_cell kt6 0
  have ckt6_1 : _ = some _ := blk_cell kt6 1
  have ckt6_2 : _ = some _ := blk_cell kt6 2
  have fkt6_0 := blk_free kt6 0
  have fkt6_1 := blk_free kt6 1
  have fkt6_2 := blk_free kt6 2
  go_wp2_with fail
  refine post_nm20 ?_
  intro Z hZ
  have kZ : blk Z m #[.slice a1 (n + 1) d1, .slice a2 (n + 1) d2, .bool false] 52 := by rw [hZ]; exact (by apply blk_of; (repeat (first | with_reducible apply blk_set | with_reducible apply blk_gw | with_reducible apply blk_drew | with_reducible apply blk_alloc | with_reducible exact kt6 | with_reducible exact blk_new _ _ _ | ((with_reducible refine blk_at ?_); (simp; done)))); (first | rfl | simp))
  have hBZ : But (fun k => k = m) w6 Z := by rw [hZ]; exact bBut
  clear hZ
  exact bodyPost_ret (v := .int .i64 0) (by simp [results, Try.results41, go_sem]) rfl ⟨rfl, A.out _ _ _ _ _ _ hbW6 hBZ kZ O1 O2 hB1 hzw3⟩

end Go.Proofs.Ytdldlcibjjccpaa
