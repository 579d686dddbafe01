/- Chapter 20: contracts of Insert, Remove, Update. -/
import Derived.Test.YtfhhkabdeajieaaBvS
import Derived.Deep.DeepCutAuto
set_option linter.unusedVariables false
set_option linter.unusedSimpArgs false
namespace Go.Proofs.Ytfhhkabdeajieaa
open Go.RowKit Fx

theorem map_eql (p : Option Nat) (w : World) : (binOp .eql 76 (.map p) (.map none)).run Try.prog w = .ok (.bool p.isNone) w := by
  have h : ∀ d, (Op.equalIn (d + 1) 76 (.map p) (.map none)).run Try.prog w = .ok p.isNone w := fun d => by cases p <;> simp [Op.equalIn, run_underlying umap]
  simp only [binOp]
  simp [Op.equal, Op.maxDepth, h 9999]

theorem OTop.same {M M' : Nat → Nd} {T : Option Tr} (h : OTop M T) (hs : ∀ c ∈ obs T, M' c = M c) : OTop M' T := by
  cases T with
  | none => trivial
  | some T => exact ⟨h.1.same h.2.2.2 hs, by rw [hs _ T.b_mem]; exact h.2.1, h.2.2.1, h.2.2.2⟩

def insC (L : Bxs) (i : Int) (x : Bx) : Int := if x.val then (if (look L i).isSome then 7 else if 4096 ≤ L.length then 9 else 0) else 2
def insT (L : Bxs) (i : Int) (x : Bx) : Bxs := if insC L i x = 0 then insL L i x else L
def updC (L : Bxs) (i : Int) (x : Bx) : Int := if x.val then (if (look L i).isSome then 0 else 8) else 2
def updT (L : Bxs) (i : Int) (x : Bx) : Bxs := if updC L i x = 0 then insL (remL L i) i x else L

/-- What a method that changes the tree leaves behind. -/
def Turns (a : Nat) (L' : Bxs) (S : Nat → Prop) (w w' : World) : Prop := ∃ S' : Nat → Prop, TreeAt w' a L' S' ∧ But S w w' ∧ ∀ k, S' k → S k ∨ w.heap.size ≤ k
theorem Turns.same {a : Nat} {L : Bxs} {S : Nat → Prop} {w w' : World} (h : TreeAt w a L S) (hb : Below w.heap.size w w') : Turns a L S w w' := ⟨S, h.below hb, But.ofBelow hb S, fun _ h => .inl h⟩

/-- The tree behind an attach. -/
theorem turns_att {a bm lf n : Nat} {L' : Bxs} {S N N' : Nat → Prop} {w w3 w' : World} {i : Int} {x : Bx} {T : Option Tr} {T' : Tr} {F : Int → Option Nat} {M' : Nat → Nd} (sa : S a) (hL' : Srt L') (hk : ∀ e ∈ L', i64k e.1) (hv : ∀ e ∈ L', e.2.val = true) (hlen : L'.length ≤ 4096)
    (b3 : But S w w3) (r1 : Rep w' M' N') (r2 : blk w' a #[nptr (some T'.b), .map (some bm)] 78) (r3 : But (fun k => k = a ∨ N k) w3 w') (r4 : Top M' T') (r5 : ∀ c ∈ T'.bs, N' c) (r6 : T'.lv.Perm (olv T ++ [(lf, i, x)])) (r7 : ∀ k, N' k → N k ∨ w3.heap.size ≤ k)
    (hN : ∀ k, N k → S k ∨ w.heap.size ≤ k) (sbm : S bm ∨ w.heap.size ≤ bm) (nbm : ¬ N bm) (nba : bm ≠ a) (na : ¬ N a) (hm : MapAt w3 (some bm) F n) (hn : n = L'.length) (hp : ((olv T).map (·.2) ++ [(i, x)]).Perm L') (hF : ∀ j c, F j = some c ↔ ∃ y, (c, j, y) ∈ olv T ++ [(lf, i, x)]) (ha3 : a < w3.heap.size) : Turns a L' S w w' := by
  have hsz := Nat.le_trans b3.size r3.size
  have nb' : ¬ N' bm := fun h => by rcases r7 bm h with h | h; exact nbm h; have := mapat_lt hm; omega
  have na' : ¬ N' a := fun h => by rcases r7 a h with h | h; exact na h; omega
  refine ⟨fun k => k < w'.heap.size ∧ (S k ∨ w.heap.size ≤ k), ⟨fun k h => h.1, ⟨blk_lt r2, .inl sa⟩, hL', hk, hv, hlen, some T', some bm, F, M', N', r2, r1, fun k h => ⟨blk_lt (r1 k h), ?_⟩, na', ?_, ?_, r4, r5, ?_, ?_⟩, ?_, fun k h => h.2⟩
  · rcases r7 k h with h | h
    · exact hN k h
    · exact .inr (Nat.le_trans b3.size h)
  · intro b e
    cases e
    exact ⟨⟨Nat.lt_of_lt_of_le (mapat_lt hm) r3.size, sbm⟩, nb', nba⟩
  · rw [← hn]; exact mapat_but hm r3 (fun b e => by cases e; exact fun h => h.elim nba nbm)
  · refine (r6.map _).trans ?_
    rw [List.map_append]; exact hp
  · intro j c
    rw [hF]
    exact ⟨fun ⟨y, h⟩ => ⟨y, r6.mem_iff.2 h⟩, fun ⟨y, h⟩ => ⟨y, r6.mem_iff.1 h⟩⟩
  · refine b3.trans r3 ?_
    rintro k hk (rfl | h)
    · exact sa
    · rcases hN k h with h | h
      · exact h
      · omega

set_option maxRecDepth 100000 in
set_option maxHeartbeats 4000000 in
theorem insert_b (a : Nat) (L : Bxs) (S : Nat → Prop) (i x0 y0 x1 y1 : Int) (hi : i64k i) (w : World) (h : TreeAt w a L S) : Calls Try.prog 41 #[.pointer (some ⟨a, 0, none⟩), .int .i64 i, .agg #[.int .i64 x0, .int .i64 y0, .int .i64 x1, .int .i64 y1]] w fun e w' => e = .returned (.int .i64 (insC L i ⟨x0, y0, x1, y1⟩)) ∧ Turns a (insT L i ⟨x0, y0, x1, y1⟩) S w w' := by
  obtain ⟨T, mb, F, M, N, kt, m2, m3, m4, m5, m6, m7, m8, m9, m10⟩ := h.mem
  have hfind := h.find m7 m9 m10 i
  have hTw := fun w' hb => Turns.same (w' := w') h hb
  cases hv : val4 x0 y0 x1 y1 with
  | false =>
    have e0 : insC L i ⟨x0, y0, x1, y1⟩ = 2 := by simp [insC, val4_eq, hv]
    have e1 : insT L i ⟨x0, y0, x1, y1⟩ = L := by simp [insT, e0]
    rw [e0, e1]
    have A : Hid (∀ w', Below w.heap.size w w' → Turns a L S w w') := hTw
    clear m2 m3 m4 m5 m6 m7 m8 m9 m10 hfind hTw h e0 e1
    generalize nptr (T.map Tr.b) = root at *
    have okt := blk_older kt
    have ckt_0 : _ = some _ := blk_cell kt 0
    have ckt_1 : _ = some _ := blk_cell kt 1
    have fkt_0 := blk_free kt 0
    have fkt_1 := blk_free kt 1
    go_enter Try.func41, Try.ntmps41
    go_wp2_with (go_at_call 29; refine Calls.mono (gw_at (boolIs (xval_b x0 y0 x1 y1 _) hv)) ?_; rintro e w1 ⟨rfl, q, rfl⟩)
    go_ret
    exact ⟨rfl, A.out _ bBel⟩
  | true =>
    have hlen := h.len
    rcases hfind with ⟨hF, hL⟩ | ⟨c, x, hF, hL, -⟩
    rotate_left
    · have e0 : insC L i ⟨x0, y0, x1, y1⟩ = 7 := by simp [insC, val4_eq, hv, hL]
      have e1 : insT L i ⟨x0, y0, x1, y1⟩ = L := by simp [insT, e0]
      rw [e0, e1]
      have A : Hid (∀ w', Below w.heap.size w w' → Turns a L S w w') := hTw
      have B : Hid (∀ w', Below w.heap.size w w' → (Instr.lookup 76 (.map mb) (.int .i64 i) false).run Try.prog w' = .ok (.pointer (some ⟨c, 0, none⟩)) w') := fun w' hb => by have := mapat_look (mapat_but m6 (But.ofBelow hb fun _ => False) fun _ _ h => h) hi; rw [hF] at this; exact this
      clear m2 m3 m4 m5 m6 m7 m8 m9 m10 hTw h e0 e1 hF hL hlen
      generalize nptr (T.map Tr.b) = root at *
      have okt := blk_older kt
      have ckt_0 : _ = some _ := blk_cell kt 0
      have ckt_1 : _ = some _ := blk_cell kt 1
      have fkt_0 := blk_free kt 0
      have fkt_1 := blk_free kt 1
      go_enter Try.func41, Try.ntmps41
      go_upto_region 5 with (go_at_call 29; refine Calls.mono (gw_at (boolIs (xval_b x0 y0 x1 y1 _) hv)) ?_; rintro e w1 ⟨rfl, q, rfl⟩)
      refine wp_named ?_
      intro X hX
      have kt_1 : blk X a #[root, .map mb] 78 := by rw [hX]; exact (by apply blk_of; (repeat (first | with_reducible exact kt | with_reducible apply blk_drew | with_reducible apply blk_gw | with_reducible apply blk_alloc | with_reducible apply blk_set | ((with_reducible apply blk_other); focus omega))); (first | rfl | simp))
      have hbX : Below w.heap.size w X := by rw [hX]; exact bBel
      have hzX := hbX.size
      clear hX
      clear okt ckt_0 ckt_1 fkt_0 fkt_1
      clear kt
      have okt_1 := blk_older kt_1
      have ckt_1_0 : _ = some _ := blk_cell kt_1 0
      have ckt_1_1 : _ = some _ := blk_cell kt_1 1
      have fkt_1_0 := blk_free kt_1 0
      have fkt_1_1 := blk_free kt_1 1
      have hl := B.out X hbX
      go_wp2_with fail
      go_ret
      exact ⟨rfl, A.out _ bBel⟩
    have B : Hid (∀ w', Below w.heap.size w w' → (Instr.lookup 76 (.map mb) (.int .i64 i) false).run Try.prog w' = .ok (.pointer none) w' ∧ ∀ ty, (Builtin.len_ #[76] ty #[.map mb]).run Try.prog w' = .ok (.int .i64 (L.length : Int)) w') := fun w' hb => by
      have hm := mapat_but m6 (But.ofBelow hb fun _ => False) fun _ _ h => h
      have := mapat_look hm hi; rw [hF] at this; exact ⟨this, fun ty => mapat_len hm ty⟩
    by_cases hfull : 4096 ≤ L.length
    · have e0 : insC L i ⟨x0, y0, x1, y1⟩ = 9 := by simp [insC, val4_eq, hv, hL, hfull]
      have e1 : insT L i ⟨x0, y0, x1, y1⟩ = L := by simp [insT, e0]
      rw [e0, e1]
      have A : Hid (∀ w', Below w.heap.size w w' → Turns a L S w w') := hTw
      clear m2 m3 m4 m5 m6 m7 m8 m9 m10 hTw h e0 e1 hF hL
      generalize L.length = n at *
      generalize nptr (T.map Tr.b) = root at *
      have okt := blk_older kt
      have ckt_0 : _ = some _ := blk_cell kt 0
      have ckt_1 : _ = some _ := blk_cell kt 1
      have fkt_0 := blk_free kt 0
      have fkt_1 := blk_free kt 1
      go_enter Try.func41, Try.ntmps41
      go_upto_region 5 with (go_at_call 29; refine Calls.mono (gw_at (boolIs (xval_b x0 y0 x1 y1 _) hv)) ?_; rintro e w1 ⟨rfl, q, rfl⟩)
      refine wp_named ?_
      intro X hX
      have kt_1 : blk X a #[root, .map mb] 78 := by rw [hX]; exact (by apply blk_of; (repeat (first | with_reducible exact kt | with_reducible apply blk_drew | with_reducible apply blk_gw | with_reducible apply blk_alloc | with_reducible apply blk_set | ((with_reducible apply blk_other); focus omega))); (first | rfl | simp))
      have hbX : Below w.heap.size w X := by rw [hX]; exact bBel
      have hzX := hbX.size
      clear hX
      clear okt ckt_0 ckt_1 fkt_0 fkt_1
      clear kt
      have okt_1 := blk_older kt_1
      have ckt_1_0 : _ = some _ := blk_cell kt_1 0
      have ckt_1_1 : _ = some _ := blk_cell kt_1 1
      have fkt_1_0 := blk_free kt_1 0
      have fkt_1_1 := blk_free kt_1 1
      obtain ⟨hl, hl2⟩ := B.out X hbX
      go_wp2_with fail
      go_ret
      exact ⟨rfl, A.out _ bBel⟩
    have e0 : insC L i ⟨x0, y0, x1, y1⟩ = 0 := by simp [insC, val4_eq, hv, hL]; omega
    have e1 : insT L i ⟨x0, y0, x1, y1⟩ = insL L i ⟨x0, y0, x1, y1⟩ := by simp [insT, e0]
    rw [e0, e1]
    obtain ⟨rt, hrt⟩ : ∃ rt, Hid (nptr (T.map Tr.b) = rt) := ⟨_, rfl⟩
    have hta := blk_lt kt
    cases mb with
    | some bm =>
      obtain ⟨sbm0, nbm, nba⟩ := m5 bm rfl
      have sbm : S bm ∨ w.heap.size ≤ bm := .inl sbm0
      have hq : ∀ W, (binOp .eql 76 (.map (some bm)) (.map none)).run Try.prog W = .ok (.bool false) W := fun W => map_eql (some bm) W
      have kt0 := kt
      rw [hrt.out] at kt0
      have okt0 := blk_older kt0
      have ckt0_0 : _ = some _ := blk_cell kt0 0
      have ckt0_1 : _ = some _ := blk_cell kt0 1
      have fkt0_0 := blk_free kt0 0
      have fkt0_1 := blk_free kt0 1
      go_enter Try.func41, Try.ntmps41
      go_upto_region 5 with (go_at_call 29; refine Calls.mono (gw_at (boolIs (xval_b x0 y0 x1 y1 _) hv)) ?_; rintro e w1 ⟨rfl, q, rfl⟩)
      refine wp_named ?_
      intro X hX
      have kqX : blk X w.heap.size #[.int .i64 x0, .int .i64 y0, .int .i64 x1, .int .i64 y1] 31 := by rw [hX]; exact bBkn
      have hbX : Below w.heap.size w X := by rw [hX]; exact bBel
      clear hX
      obtain ⟨hl, hl2⟩ := B.out X hbX
      have ktX := blk_below hbX kt0
      have hzX := hbX.size
      have oktX := blk_older ktX
      have cktX_0 : _ = some _ := blk_cell ktX 0
      have cktX_1 : _ = some _ := blk_cell ktX 1
      have fktX_0 := blk_free ktX 0
      have fktX_1 := blk_free ktX 1
      go_upto_region 11 with fail
      refine wp_named ?_
      intro Y hY
      have ktY : blk Y a #[nptr (T.map Tr.b), .map (some bm)] 78 := by rw [hrt.out, hY]; exact ktX
      have kqY : blk Y w.heap.size #[.int .i64 x0, .int .i64 y0, .int .i64 x1, .int .i64 y1] 31 := by rw [hY]; exact kqX
      have hBY : But (fun k => k = a) w Y := by rw [hY]; exact But.ofBelow hbX _
      have mY := mapat_but m6 hBY (fun b e => by cases e; exact nba)
      clear hY hl hl2 hq ktX kqX hbX hzX kt0 kt m5 hTw sbm0 B
      have hfull' := hfull
      have hRY := m2.but hBY (fun k hk e => m4 (e ▸ hk))
      have hzY := hBY.size
      have oktY := blk_older ktY
      have cktY_0 : _ = some _ := blk_cell ktY 0
      have cktY_1 : _ = some _ := blk_cell ktY 1
      have fktY_0 := blk_free ktY 0
      have fktY_1 := blk_free ktY 1
      have okqY := blk_older kqY
      have ckqY_0 : _ = some _ := blk_cell kqY 0
      have ckqY_1 : _ = some _ := blk_cell kqY 1
      have ckqY_2 : _ = some _ := blk_cell kqY 2
      have ckqY_3 : _ = some _ := blk_cell kqY 3
      have fkqY_0 := blk_free kqY 0
      have fkqY_1 := blk_free kqY 1
      have fkqY_2 := blk_free kqY 2
      have fkqY_3 := blk_free kqY 3
      go_upto_region 12 with (go_at_call 59; with_reducible_and_instances refine Calls.mono (newleaf_b i x0 y0 x1 y1 _) ?_; rintro e w1 ⟨rfl, kl, hbl⟩; obtain ⟨q2, rfl⟩ := gw_of_below hbl; clear hbl)
      refine wp_named ?_
      intro Z hZ
      rw [← hZ] at kl
      have hbZ : Below Y.heap.size Y Z := by rw [hZ]; exact below_gw _ _
      clear hZ
      have ktZ := blk_below hbZ ktY
      have hRZ := hRY.below hbZ
      have mZ := mapat_but mY (But.ofBelow hbZ fun _ => False) fun _ _ h => h
      have hltY : w.heap.size < Y.heap.size := blk_lt kqY
      have hlf : w.heap.size ≤ Y.heap.size + 1 := by omega
      have hBZ := hBY.trans (But.ofBelow hbZ fun _ => False) fun _ _ h => h.elim
      clear hbZ
      have lfbm : Y.heap.size + 1 ≠ bm := by have := mapat_lt mY; omega
      generalize Y.heap.size + 1 = lf at *
      have nlf : ¬ N lf := fun hk => by have := blk_lt (m2 lf hk); omega
      have alf : a ≠ lf := by omega
      obtain ⟨Z3, hput, m3', b3⟩ := mapat_put mZ hi (by omega) hF lf
      have kt3 := b3.blk ktZ (fun e => nba e.symm)
      have kl3 := b3.blk kl lfbm
      have hR3 : Rep Z3 (newM M lf ⟨i, ⟨x0, y0, x1, y1⟩, 1, none, none, none⟩) (fun k => N k ∨ k = lf) := by
        rintro c (hc | rfl)
        · rw [newM_other (by rintro rfl; exact nlf hc)]; exact b3.blk (hRZ c hc) (by rintro rfl; exact nbm hc)
        · rw [newM_self]; exact kl3
      have hsame : ∀ c ∈ obs T, newM M lf ⟨i, ⟨x0, y0, x1, y1⟩, 1, none, none, none⟩ c = M c := fun c hc => newM_other (by rintro rfl; exact nlf (m8 _ hc))
      have hln := m9.length_eq
      rw [List.length_map] at hln
      have cA := attach_b a lf (.map (some bm)) _ _ Z3 T hR3 kt3 (by rintro (h | rfl); exact m4 h; exact alf rfl) (.inr rfl) (m7.same hsame) (fun c hc => .inl (m8 c hc)) (fun hc => nlf (m8 _ hc)) (by omega) (fun _ => by rw [newM_self]) i ⟨x0, y0, x1, y1⟩ (by rw [newM_self]) (by rw [newM_self]) (by rw [newM_self])
      have hB3 : But S w Z3 := ((hBZ.mono (S' := fun k => k = a ∨ k = bm) fun _ _ h => .inl h).trans b3 fun k _ h => .inr h).mono (by
        rintro k hk (rfl | rfl)
        · exact h.sa
        · rcases sbm with h | h
          · exact h
          · omega)
      have A : Hid (∀ w' (T' : Tr) (M' : Nat → Nd) (N' : Nat → Prop), Rep w' M' N' → blk w' a #[nptr (some T'.b), .map (some bm)] 78 → But (fun k => k = a ∨ (N k ∨ k = lf)) Z3 w' → Top M' T' → (∀ c ∈ T'.bs, N' c) → T'.lv.Perm (olv T ++ [(lf, i, ⟨x0, y0, x1, y1⟩)]) → (∀ k, N' k → (N k ∨ k = lf) ∨ Z3.heap.size ≤ k) → Turns a (insL L i ⟨x0, y0, x1, y1⟩) S w w') := by
        intro w' T' M' N' r1 r2 r3 r4 r5 r6 r7
        have hpL := insL_perm i ⟨x0, y0, x1, y1⟩ L
        refine turns_att h.sa (insL_srt _ h.srt (look_none.1 hL)) (fun e he => ?_) (fun e he => ?_) (by rw [hpL.length_eq]; simp; omega) hB3 r1 r2 r3 r4 r5 r6 r7 ?_ sbm (by rintro (h | h); exact nbm h; exact lfbm h.symm) nba (by rintro (h | h); exact m4 h; exact alf h) m3' (by rw [hpL.length_eq]; simp) ?_ ?_ (blk_lt kt3)
        · rcases List.mem_cons.1 (hpL.mem_iff.1 he) with rfl | he
          · exact hi
          · exact h.keys e he
        · rcases List.mem_cons.1 (hpL.mem_iff.1 he) with rfl | he
          · exact hv
          · exact h.vals e he
        · rintro k (hk | rfl)
          · exact .inl (m3 k hk)
          · exact .inr hlf
        · refine (m9.append_right _).trans ?_
          exact List.perm_append_comm.trans hpL.symm
        · intro j c
          by_cases hj : j = i
          · subst hj
            rw [if_pos rfl]
            constructor
            · intro e; cases e; exact ⟨_, List.mem_append.2 (.inr (List.mem_singleton.2 rfl))⟩
            · rintro ⟨y, hy⟩
              rcases List.mem_append.1 hy with hy | hy
              · have := (m10 j c).2 ⟨y, hy⟩; rw [hF] at this; cases this
              · simp only [List.mem_singleton, Prod.mk.injEq] at hy; rw [hy.1]
          · rw [if_neg hj, m10]
            constructor
            · rintro ⟨y, hy⟩; exact ⟨y, List.mem_append.2 (.inl hy)⟩
            · rintro ⟨y, hy⟩
              rcases List.mem_append.1 hy with hy | hy
              · exact ⟨y, hy⟩
              · simp only [List.mem_singleton, Prod.mk.injEq] at hy; exact absurd hy.2.1 hj
      clear m2 m3 m4 m6 m7 m8 m9 m10 h hF hL hRY hRZ mZ mY hR3 hsame hln m3' hB3 hBZ hBY sbm nbm b3 kl3 e0 e1 hv hlen hlf nlf lfbm alf hfull kt3
      have oktZ := blk_older ktZ
      have cktZ_0 : _ = some _ := blk_cell ktZ 0
      have cktZ_1 : _ = some _ := blk_cell ktZ 1
      have fktZ_0 := blk_free ktZ 0
      have fktZ_1 := blk_free ktZ 1
      go_wp2_with (go_at_call 60; with_reducible_and_instances refine Calls.mono cA ?_; rintro e w4 ⟨rfl, T', M', N', r1, r2, r3, r4, r5, r6, r7⟩)
      go_ret
      exact ⟨rfl, A.out _ T' M' N' r1 r2 r3 r4 r5 r6 r7⟩
    | none =>
      have hmm : ∀ W, (Instr.makeMap 76 none).run Try.prog W = .ok (.map (some W.heap.size)) (W.alloc (.map #[] 0)) := fun W => rfl
      have hq : ∀ W, (binOp .eql 76 (.map none) (.map none)).run Try.prog W = .ok (.bool true) W := fun W => map_eql none W
      have kt0 := kt
      rw [hrt.out] at kt0
      have okt0 := blk_older kt0
      have ckt0_0 : _ = some _ := blk_cell kt0 0
      have ckt0_1 : _ = some _ := blk_cell kt0 1
      have fkt0_0 := blk_free kt0 0
      have fkt0_1 := blk_free kt0 1
      go_enter Try.func41, Try.ntmps41
      go_upto_region 5 with (go_at_call 29; refine Calls.mono (gw_at (boolIs (xval_b x0 y0 x1 y1 _) hv)) ?_; rintro e w1 ⟨rfl, q, rfl⟩)
      refine wp_named ?_
      intro X hX
      have kqX : blk X w.heap.size #[.int .i64 x0, .int .i64 y0, .int .i64 x1, .int .i64 y1] 31 := by rw [hX]; exact bBkn
      have hbX : Below w.heap.size w X := by rw [hX]; exact bBel
      clear hX
      obtain ⟨hl, hl2⟩ := B.out X hbX
      have ktX := blk_below hbX kt0
      have hzX := hbX.size
      have oktX := blk_older ktX
      have cktX_0 : _ = some _ := blk_cell ktX 0
      have cktX_1 : _ = some _ := blk_cell ktX 1
      have fktX_0 := blk_free ktX 0
      have fktX_1 := blk_free ktX 1
      go_upto_region 11 with fail
      refine wp_named ?_
      intro Y hY
      have ktY0 : blk Y a #[rt, .map (some X.heap.size)] 78 := by rw [hY]; exact (by apply blk_of; (repeat (first | with_reducible exact ktX | with_reducible apply blk_drew | with_reducible apply blk_gw | with_reducible apply blk_alloc | with_reducible apply blk_set | ((with_reducible apply blk_other); focus omega))); (first | rfl | simp))
      have ktY : blk Y a #[nptr (T.map Tr.b), .map (some X.heap.size)] 78 := by rw [hrt.out]; exact ktY0
      have kqY : blk Y w.heap.size #[.int .i64 x0, .int .i64 y0, .int .i64 x1, .int .i64 y1] 31 := by rw [hY]; exact blk_alloc (blk_other (Nat.ne_of_lt hta) kqX)
      have hBY : But (fun k => k = a) w Y := by rw [hY]; exact (But.set (S := fun k => k = a) (But.ofBelow hbX _) rfl _).alloc _
      have nba : X.heap.size ≠ a := by omega
      have mY : MapAt Y (some X.heap.size) F L.length := by
        rw [m6.2, show F = fun _ => none from funext m6.1, hY]
        have hn := mapat_new (X.setCell ⟨a, 1, none⟩ (.map (some X.heap.size)))
        rw [show (X.setCell ⟨a, 1, none⟩ (.map (some X.heap.size))).heap.size = X.heap.size from by simp [World.setCell]] at hn
        exact hn
      have sbm : S X.heap.size ∨ w.heap.size ≤ X.heap.size := .inr hzX
      have nbm : ¬ N X.heap.size := fun hk => by have := blk_lt (m2 _ hk); omega
      clear hY hl hl2 hq kqX kt0 kt m5 hTw B ktY0 okt0
      clear ktX hbX hzX oktX cktX_0 cktX_1 fktX_0 fktX_1
      generalize X.heap.size = bm at *
      have hfull' := hfull
      have hRY := m2.but hBY (fun k hk e => m4 (e ▸ hk))
      have hzY := hBY.size
      have oktY := blk_older ktY
      have cktY_0 : _ = some _ := blk_cell ktY 0
      have cktY_1 : _ = some _ := blk_cell ktY 1
      have fktY_0 := blk_free ktY 0
      have fktY_1 := blk_free ktY 1
      have okqY := blk_older kqY
      have ckqY_0 : _ = some _ := blk_cell kqY 0
      have ckqY_1 : _ = some _ := blk_cell kqY 1
      have ckqY_2 : _ = some _ := blk_cell kqY 2
      have ckqY_3 : _ = some _ := blk_cell kqY 3
      have fkqY_0 := blk_free kqY 0
      have fkqY_1 := blk_free kqY 1
      have fkqY_2 := blk_free kqY 2
      have fkqY_3 := blk_free kqY 3
      go_upto_region 12 with (go_at_call 59; with_reducible_and_instances refine Calls.mono (newleaf_b i x0 y0 x1 y1 _) ?_; rintro e w1 ⟨rfl, kl, hbl⟩; obtain ⟨q2, rfl⟩ := gw_of_below hbl; clear hbl)
      refine wp_named ?_
      intro Z hZ
      rw [← hZ] at kl
      have hbZ : Below Y.heap.size Y Z := by rw [hZ]; exact below_gw _ _
      clear hZ
      have ktZ := blk_below hbZ ktY
      have hRZ := hRY.below hbZ
      have mZ := mapat_but mY (But.ofBelow hbZ fun _ => False) fun _ _ h => h
      have hltY : w.heap.size < Y.heap.size := blk_lt kqY
      have hlf : w.heap.size ≤ Y.heap.size + 1 := by omega
      have hBZ := hBY.trans (But.ofBelow hbZ fun _ => False) fun _ _ h => h.elim
      clear hbZ
      have lfbm : Y.heap.size + 1 ≠ bm := by have := mapat_lt mY; omega
      generalize Y.heap.size + 1 = lf at *
      have nlf : ¬ N lf := fun hk => by have := blk_lt (m2 lf hk); omega
      have alf : a ≠ lf := by omega
      obtain ⟨Z3, hput, m3', b3⟩ := mapat_put mZ hi (by omega) hF lf
      have kt3 := b3.blk ktZ (fun e => nba e.symm)
      have kl3 := b3.blk kl lfbm
      have hR3 : Rep Z3 (newM M lf ⟨i, ⟨x0, y0, x1, y1⟩, 1, none, none, none⟩) (fun k => N k ∨ k = lf) := by
        rintro c (hc | rfl)
        · rw [newM_other (by rintro rfl; exact nlf hc)]; exact b3.blk (hRZ c hc) (by rintro rfl; exact nbm hc)
        · rw [newM_self]; exact kl3
      have hsame : ∀ c ∈ obs T, newM M lf ⟨i, ⟨x0, y0, x1, y1⟩, 1, none, none, none⟩ c = M c := fun c hc => newM_other (by rintro rfl; exact nlf (m8 _ hc))
      have hln := m9.length_eq
      rw [List.length_map] at hln
      have cA := attach_b a lf (.map (some bm)) _ _ Z3 T hR3 kt3 (by rintro (h | rfl); exact m4 h; exact alf rfl) (.inr rfl) (m7.same hsame) (fun c hc => .inl (m8 c hc)) (fun hc => nlf (m8 _ hc)) (by omega) (fun _ => by rw [newM_self]) i ⟨x0, y0, x1, y1⟩ (by rw [newM_self]) (by rw [newM_self]) (by rw [newM_self])
      have hB3 : But S w Z3 := ((hBZ.mono (S' := fun k => k = a ∨ k = bm) fun _ _ h => .inl h).trans b3 fun k _ h => .inr h).mono (by
        rintro k hk (rfl | rfl)
        · exact h.sa
        · rcases sbm with h | h
          · exact h
          · omega)
      have A : Hid (∀ w' (T' : Tr) (M' : Nat → Nd) (N' : Nat → Prop), Rep w' M' N' → blk w' a #[nptr (some T'.b), .map (some bm)] 78 → But (fun k => k = a ∨ (N k ∨ k = lf)) Z3 w' → Top M' T' → (∀ c ∈ T'.bs, N' c) → T'.lv.Perm (olv T ++ [(lf, i, ⟨x0, y0, x1, y1⟩)]) → (∀ k, N' k → (N k ∨ k = lf) ∨ Z3.heap.size ≤ k) → Turns a (insL L i ⟨x0, y0, x1, y1⟩) S w w') := by
        intro w' T' M' N' r1 r2 r3 r4 r5 r6 r7
        have hpL := insL_perm i ⟨x0, y0, x1, y1⟩ L
        refine turns_att h.sa (insL_srt _ h.srt (look_none.1 hL)) (fun e he => ?_) (fun e he => ?_) (by rw [hpL.length_eq]; simp; omega) hB3 r1 r2 r3 r4 r5 r6 r7 ?_ sbm (by rintro (h | h); exact nbm h; exact lfbm h.symm) nba (by rintro (h | h); exact m4 h; exact alf h) m3' (by rw [hpL.length_eq]; simp) ?_ ?_ (blk_lt kt3)
        · rcases List.mem_cons.1 (hpL.mem_iff.1 he) with rfl | he
          · exact hi
          · exact h.keys e he
        · rcases List.mem_cons.1 (hpL.mem_iff.1 he) with rfl | he
          · exact hv
          · exact h.vals e he
        · rintro k (hk | rfl)
          · exact .inl (m3 k hk)
          · exact .inr hlf
        · refine (m9.append_right _).trans ?_
          exact List.perm_append_comm.trans hpL.symm
        · intro j c
          by_cases hj : j = i
          · subst hj
            rw [if_pos rfl]
            constructor
            · intro e; cases e; exact ⟨_, List.mem_append.2 (.inr (List.mem_singleton.2 rfl))⟩
            · rintro ⟨y, hy⟩
              rcases List.mem_append.1 hy with hy | hy
              · have := (m10 j c).2 ⟨y, hy⟩; rw [hF] at this; cases this
              · simp only [List.mem_singleton, Prod.mk.injEq] at hy; rw [hy.1]
          · rw [if_neg hj, m10]
            constructor
            · rintro ⟨y, hy⟩; exact ⟨y, List.mem_append.2 (.inl hy)⟩
            · rintro ⟨y, hy⟩
              rcases List.mem_append.1 hy with hy | hy
              · exact ⟨y, hy⟩
              · simp only [List.mem_singleton, Prod.mk.injEq] at hy; exact absurd hy.2.1 hj
      clear m2 m3 m4 m6 m7 m8 m9 m10 h hF hL hRY hRZ mZ mY hR3 hsame hln m3' hB3 hBZ hBY sbm nbm b3 kl3 e0 e1 hv hlen hlf nlf lfbm alf hfull kt3
      have oktZ := blk_older ktZ
      have cktZ_0 : _ = some _ := blk_cell ktZ 0
      have cktZ_1 : _ = some _ := blk_cell ktZ 1
      have fktZ_0 := blk_free ktZ 0
      have fktZ_1 := blk_free ktZ 1
      go_wp2_with (go_at_call 60; with_reducible_and_instances refine Calls.mono cA ?_; rintro e w4 ⟨rfl, T', M', N', r1, r2, r3, r4, r5, r6, r7⟩)
      go_ret
      exact ⟨rfl, A.out _ T' M' N' r1 r2 r3 r4 r5 r6 r7⟩

end Go.Proofs.Ytfhhkabdeajieaa
