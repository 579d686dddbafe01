/- Chapter 20: contracts of Remove, Update; the methods of a nil tree. -/
import Derived.Test.YtfhhkabdeajieaaBvT
import Derived.Deep.DeepCutAuto
set_option linter.unusedVariables false
set_option linter.unusedSimpArgs false
namespace Go.Proofs.Ytfhhkabdeajieaa
open Go.RowKit Fx

theorem remL_none {L : Bxs} {i : Int} (h : look L i = none) : remL L i = L := by
  unfold remL
  rw [List.filter_eq_self]
  intro e he
  simpa using look_none.1 h e he
theorem remL_perm {L : Bxs} (h : Srt L) {i : Int} {x : Bx} (hm : (i, x) ∈ L) : L.Perm ((i, x) :: remL L i) := by
  induction L with
  | nil => simp at hm
  | cons e L ih =>
    have h' := List.pairwise_cons.1 h
    rcases List.mem_cons.1 hm with rfl | hm
    · have hn : remL L i = L := remL_none (look_none.2 fun y hy => by have := h'.1 y hy; simp only at this; omega)
      have : remL ((i, x) :: L) i = remL L i := by simp [remL]
      rw [this, hn]
    · have hne := h'.1 _ hm
      simp only at hne
      have : remL (e :: L) i = e :: remL L i := by unfold remL; rw [List.filter_cons_of_pos (by simp; omega)]
      rw [this]
      exact ((ih h'.2 hm).cons e).trans (List.Perm.swap _ _ _)
theorem mem_remL {L : Bxs} {i : Int} {e : Int × Bx} : e ∈ remL L i ↔ e ∈ L ∧ e.1 ≠ i := by simp [remL, List.mem_filter]

set_option maxRecDepth 100000 in
set_option maxHeartbeats 4000000 in
theorem remove_b (a : Nat) (L : Bxs) (S : Nat → Prop) (i : Int) (hi : i64k i) (w : World) (h : TreeAt w a L S) : Calls Try.prog 43 #[.pointer (some ⟨a, 0, none⟩), .int .i64 i] w fun e w' => e = .returned (.bool (look L i).isSome) ∧ Turns a (remL L i) S w w' := by
  obtain ⟨T, mb, F, M, N, kt, m2, m3, m4, m5, m6, m7, m8, m9, m10⟩ := h.mem
  have hfind := h.find m7 m9 m10 i
  have hl := mapat_look m6 hi
  rcases hfind with ⟨hF, hL⟩ | ⟨c, x, hF, hL, hx, -, -, -, hc⟩
  · rw [hL, remL_none hL]
    rw [hF, nptr_none] at hl
    have A : Hid (∀ w', Below w.heap.size w w' → Turns a L S w w') := fun w' hb => Turns.same h hb
    clear m2 m3 m4 m5 m6 m7 m8 m9 m10 h hF hL
    simp only [Option.isSome_none]
    generalize nptr (T.map Tr.b) = root at *
    have okt := blk_older kt
    have ckt_0 : _ = some _ := blk_cell kt 0
    have ckt_1 : _ = some _ := blk_cell kt 1
    have fkt_0 := blk_free kt 0
    have fkt_1 := blk_free kt 1
    go_enter Try.func43, Try.ntmps43
    go_wp2_with fail
    go_ret
    exact ⟨rfl, A.out _ bBel⟩
  · rw [hL]
    rw [hF, nptr_some] at hl
    cases T with
    | none => simp [olv] at hx
    | some T =>
    cases mb with
    | none => rw [m6.1 i] at hF; cases hF
    | some bm =>
    obtain ⟨sbm, nbm, nba⟩ := m5 bm rfl
    have hm : (i, x) ∈ L := (look_some h.srt).1 hL
    have hpL := remL_perm h.srt hm
    have hln := m9.length_eq
    rw [List.length_map] at hln
    have hlen := h.len
    have cD := detach_b a c (.map (some bm)) M N w T i x m2 kt m4 m7 m8 (by simp only [olv] at hln; omega) hx
    have ina : a ≠ bm := Ne.symm nba
    have A : Hid (∀ (w2 w3 : World) (T2 : Option Tr) (M2 : Nat → Nd), Rep w2 M2 N → blk w2 a #[nptr (T2.map Tr.b), .map (some bm)] 78 → But (fun k => k = a ∨ N k) w w2 → OTop M2 T2 → (∀ k ∈ obs T2, N k) → T.lv.Perm ((c, i, x) :: olv T2) → MapAt w3 (some bm) (fun j => if j = i then none else F j) (L.length - 1) → But (fun k => k = bm) w2 w3 → Turns a (remL L i) S w w3) := by
      intro w2 w3 T2 M2 r1 r2 r3 r4 r5 r6 r7 r8
      have hS : But S w w3 := ((r3.mono (S' := fun k => k = a ∨ N k ∨ k = bm) fun k _ h => h.elim .inl fun h => .inr (.inl h)).trans r8 fun k _ h => .inr (.inr h)).mono (by
        rintro k hk (rfl | h' | rfl)
        · exact h.sa
        · exact m3 k h'
        · exact sbm)
      have hpl := hpL.length_eq
      simp only [List.length_cons] at hpl
      have hnd : ((i, x) :: remL L i).map (·.1) = i :: (remL L i).map (·.1) := rfl
      refine ⟨S, ⟨fun k hk => Nat.lt_of_lt_of_le (h.lt k hk) hS.size, h.sa, remL_srt h.srt i, fun e he => h.keys e (mem_remL.1 he).1, fun e he => h.vals e (mem_remL.1 he).1, by omega, T2, some bm, _, M2, N, r8.blk r2 ina, r1.but r8 (by rintro k hk rfl; exact nbm hk), m3, m4, m5, by rw [show (remL L i).length = L.length - 1 by omega]; exact r7, r4, r5, ?_, ?_⟩, hS, fun _ h => .inl h⟩
      · have h1 := (r6.map (·.2)).symm.trans (m9.trans hpL)
        exact (List.perm_cons _).1 h1
      · intro j k
        by_cases hj : j = i
        · subst hj
          rw [if_pos rfl]
          refine ⟨fun e => (by cases e), fun ⟨y, hy⟩ => ?_⟩
          have h1 := (r6.map (·.2)).symm.trans (m9.trans hpL)
          have h2 := ((List.perm_cons _).1 h1).mem_iff.1 (List.mem_map.2 ⟨_, hy, rfl⟩)
          exact absurd rfl (mem_remL.1 h2).2
        · rw [if_neg hj, m10]
          constructor
          · rintro ⟨y, hy⟩
            rcases List.mem_cons.1 (r6.mem_iff.1 hy) with e | hy
            · simp only [Prod.mk.injEq] at e; exact absurd e.2.1 hj
            · exact ⟨y, hy⟩
          · rintro ⟨y, hy⟩; exact ⟨y, r6.mem_iff.2 (List.mem_cons_of_mem _ hy)⟩
    have B : Hid (∀ w2, But (fun k => k = a ∨ N k) w w2 → ∃ w3, (Builtin.delete_ #[76, 3] 0 #[.map (some bm), .int .i64 i]).run Try.prog w2 = .ok (.tuple #[]) w3 ∧ MapAt w3 (some bm) (fun j => if j = i then none else F j) (L.length - 1) ∧ But (fun k => k = bm) w2 w3) := fun w2 hb => mapat_del (mapat_but m6 hb fun b e => by cases e; exact fun h => h.elim nba nbm) hi (by rw [hF]; rfl) 0
    clear m2 m3 m4 m5 m6 m7 m8 m9 m10 h hF hL hm hpL hln hlen sbm nbm hx hc
    simp only [Option.isSome_some]
    simp only [Option.map_some, nptr_some] at kt cD
    generalize T.b = tb at *
    have okt := blk_older kt
    have ckt_0 : _ = some _ := blk_cell kt 0
    have ckt_1 : _ = some _ := blk_cell kt 1
    have fkt_0 := blk_free kt 0
    have fkt_1 := blk_free kt 1
    go_enter Try.func43, Try.ntmps43
    go_upto_region 4 with (go_at_call 61; with_reducible_and_instances refine Calls.mono cD ?_; rintro e w2 ⟨rfl, T2, M2, r1, r2, r3, r4, r5, r6, r7, r8, r9⟩)
    obtain ⟨w3, hdel, d1, d2⟩ := B.out w2 r3
    have D : Hid (Turns a (remL L i) S w w3) := A.out w2 w3 T2 M2 r1 r2 r3 r4 r5 r6 d1 d2
    clear r1 r3 r4 r5 r6 r7 r8 r9 d1 d2 A B
    generalize nptr (T2.map Tr.b) = root2 at *
    have or2 := blk_older r2
    have cr2_0 : _ = some _ := blk_cell r2 0
    have cr2_1 : _ = some _ := blk_cell r2 1
    have fr2_0 := blk_free r2 0
    have fr2_1 := blk_free r2 1
    go_wp2_with fail
    go_ret
    exact ⟨rfl, D.out⟩

set_option maxRecDepth 100000 in
set_option maxHeartbeats 4000000 in
theorem update_b (a : Nat) (L : Bxs) (S : Nat → Prop) (i x0 y0 x1 y1 : Int) (hi : i64k i) (w : World) (h : TreeAt w a L S) : Calls Try.prog 42 #[.pointer (some ⟨a, 0, none⟩), .int .i64 i, .agg #[.int .i64 x0, .int .i64 y0, .int .i64 x1, .int .i64 y1]] w fun e w' => e = .returned (.int .i64 (updC L i ⟨x0, y0, x1, y1⟩)) ∧ Turns a (updT L i ⟨x0, y0, x1, y1⟩) S w w' := by
  obtain ⟨T, mb, F, M, N, kt, m2, m3, m4, m5, m6, m7, m8, m9, m10⟩ := h.mem
  have hfind := h.find m7 m9 m10 i
  have hTw := fun w' hb => Turns.same (w' := w') h hb
  cases hv : val4 x0 y0 x1 y1 with
  | false =>
    have e0 : updC L i ⟨x0, y0, x1, y1⟩ = 2 := by simp [updC, val4_eq, hv]
    have e1 : updT L i ⟨x0, y0, x1, y1⟩ = L := by simp [updT, e0]
    rw [e0, e1]
    have A : Hid (∀ w', Below w.heap.size w w' → Turns a L S w w') := hTw
    clear m2 m3 m4 m5 m6 m7 m8 m9 m10 hfind hTw h e0 e1
    generalize nptr (T.map Tr.b) = root at *
    have okt := blk_older kt
    have ckt_0 : _ = some _ := blk_cell kt 0
    have ckt_1 : _ = some _ := blk_cell kt 1
    have fkt_0 := blk_free kt 0
    have fkt_1 := blk_free kt 1
    go_enter Try.func42, Try.ntmps42
    go_wp2_with (go_at_call 29; refine Calls.mono (gw_at (boolIs (xval_b x0 y0 x1 y1 _) hv)) ?_; rintro e w1 ⟨rfl, q, rfl⟩)
    go_ret
    exact ⟨rfl, A.out _ bBel⟩
  | true =>
    have hlen := h.len
    rcases hfind with ⟨hF, hL⟩ | ⟨c, x, hF, hL, hx, e1, e2, e3, hc⟩
    · have e0 : updC L i ⟨x0, y0, x1, y1⟩ = 8 := by simp [updC, val4_eq, hv, hL]
      have e1 : updT L i ⟨x0, y0, x1, y1⟩ = L := by simp [updT, e0]
      rw [e0, e1]
      have A : Hid (∀ w', Below w.heap.size w w' → Turns a L S w w') := hTw
      have B : Hid (∀ w', Below w.heap.size w w' → (Instr.lookup 76 (.map mb) (.int .i64 i) false).run Try.prog w' = .ok (.pointer none) w') := fun w' hb => by have := mapat_look (mapat_but m6 (But.ofBelow hb fun _ => False) fun _ _ h => h) hi; rw [hF] at this; exact this
      clear m2 m3 m4 m5 m6 m7 m8 m9 m10 hTw h e0 e1 hF hL hlen
      generalize nptr (T.map Tr.b) = root at *
      have okt := blk_older kt
      have ckt_0 : _ = some _ := blk_cell kt 0
      have ckt_1 : _ = some _ := blk_cell kt 1
      have fkt_0 := blk_free kt 0
      have fkt_1 := blk_free kt 1
      go_enter Try.func42, Try.ntmps42
      go_upto_region 5 with (go_at_call 29; refine Calls.mono (gw_at (boolIs (xval_b x0 y0 x1 y1 _) hv)) ?_; rintro e w1 ⟨rfl, q, rfl⟩)
      refine wp_named ?_
      intro X hX
      have kt_1 : blk X a #[root, .map mb] 78 := by rw [hX]; exact (by apply blk_of; (repeat (first | with_reducible exact kt | with_reducible apply blk_drew | with_reducible apply blk_gw | with_reducible apply blk_alloc | with_reducible apply blk_set | ((with_reducible apply blk_other); focus omega))); (first | rfl | simp))
      have hbX : Below w.heap.size w X := by rw [hX]; exact bBel
      have hzX := hbX.size
      clear hX
      clear okt ckt_0 ckt_1 fkt_0 fkt_1
      clear kt
      have okt_1 := blk_older kt_1
      have ckt_1_0 : _ = some _ := blk_cell kt_1 0
      have ckt_1_1 : _ = some _ := blk_cell kt_1 1
      have fkt_1_0 := blk_free kt_1 0
      have fkt_1_1 := blk_free kt_1 1
      have hl := B.out X hbX
      go_wp2_with fail
      go_ret
      exact ⟨rfl, A.out _ bBel⟩
    have e0 : updC L i ⟨x0, y0, x1, y1⟩ = 0 := by simp [updC, val4_eq, hv, hL]
    have e0' : updT L i ⟨x0, y0, x1, y1⟩ = insL (remL L i) i ⟨x0, y0, x1, y1⟩ := by simp [updT, e0]
    rw [e0, e0']
    clear e0 e0' hTw
    cases T with
    | none => simp [olv] at hx
    | some T =>
    cases mb with
    | none => rw [m6.1 i] at hF; cases hF
    | some bm =>
    obtain ⟨sbm, nbm, nba⟩ := m5 bm rfl
    have hm : (i, x) ∈ L := (look_some h.srt).1 hL
    have hpL := remL_perm h.srt hm
    have hln := m9.length_eq
    rw [List.length_map] at hln
    have cD := fun w' (hb : Below w.heap.size w w') => detach_b a c (.map (some bm)) M N w' T i x (m2.below hb) (blk_below hb kt) m4 m7 m8 (by simp only [olv] at hln; omega) hx
    have B : Hid (∀ w', Below w.heap.size w w' → (Instr.lookup 76 (.map (some bm)) (.int .i64 i) false).run Try.prog w' = .ok (.pointer (some ⟨c, 0, none⟩)) w') := fun w' hb => by have := mapat_look (mapat_but m6 (But.ofBelow hb fun _ => False) fun _ _ h => h) hi; rw [hF] at this; exact this
    have kt0 := kt
    simp only [Option.map_some, nptr_some] at kt0
    obtain ⟨tb, htb⟩ : ∃ tb, Hid (T.b = tb) := ⟨_, rfl⟩
    rw [htb.out] at kt0
    have okt0 := blk_older kt0
    have ckt0_0 : _ = some _ := blk_cell kt0 0
    have ckt0_1 : _ = some _ := blk_cell kt0 1
    have fkt0_0 := blk_free kt0 0
    have fkt0_1 := blk_free kt0 1
    go_enter Try.func42, Try.ntmps42
    go_upto_region 5 with (go_at_call 29; refine Calls.mono (gw_at (boolIs (xval_b x0 y0 x1 y1 _) hv)) ?_; rintro e w1 ⟨rfl, q, rfl⟩)
    refine wp_named ?_
    intro X hX
    have kqX : blk X w.heap.size #[.int .i64 x0, .int .i64 y0, .int .i64 x1, .int .i64 y1] 31 := by rw [hX]; exact bBkn
    have hbX : Below w.heap.size w X := by rw [hX]; exact bBel
    clear hX
    have hl := B.out X hbX
    have ktX := blk_below hbX kt0
    have oktX := blk_older ktX
    have cktX_0 : _ = some _ := blk_cell ktX 0
    have cktX_1 : _ = some _ := blk_cell ktX 1
    have fktX_0 := blk_free ktX 0
    have fktX_1 := blk_free ktX 1
    have cD2 := cD X hbX
    clear cD
    go_upto_region 9 with (go_at_call 61; with_reducible_and_instances refine Calls.mono cD2 ?_; rintro e w2 ⟨rfl, T2, M2, r1, r2, r3, r4, r5, r6, r7, r8, r9⟩)
    have hsN : ∀ k, N k → k < w.heap.size := fun k hk => blk_lt (m2 k hk)
    have hta := blk_lt kt
    have kq2 := r3.blk kqX (by rintro (h | h); omega; have := hsN _ h; omega)
    have hNc : N c := m8 c hc
    have kc2 := r1 c hNc
    obtain ⟨Q, hQ⟩ : ∃ Q, M2 c = Q := ⟨_, rfl⟩
    have hQ1 : Q.id = i ∧ Q.h = 1 ∧ (T2 = none → Q.p = none) := by rw [← hQ, r8]; exact ⟨e2, e3, r9⟩
    rw [hQ] at kc2
    obtain ⟨iQ, ⟨x0Q, y0Q, x1Q, y1Q⟩, hQ', pQ, lQ, rQ⟩ := Q
    have hQ2 : Hid (iQ = i ∧ hQ' = 1 ∧ (T2 = none → pQ = none)) := hQ1
    clear hQ1
    simp only [ndc] at kc2
    obtain ⟨PQ, hPQ⟩ : ∃ P, Hid (nptr pQ = P) := ⟨_, rfl⟩
    obtain ⟨LQ, hLQ⟩ : ∃ P, Hid (nptr lQ = P) := ⟨_, rfl⟩
    obtain ⟨RQ, hRQ⟩ : ∃ P, Hid (nptr rQ = P) := ⟨_, rfl⟩
    simp only [hPQ.out, hLQ.out, hRQ.out] at kc2
    have m2X := mapat_but m6 ((But.ofBelow hbX _).trans r3 fun _ _ h => h) (fun b e => by cases e; exact fun h => h.elim nba nbm)
    obtain ⟨rt2, hrt2⟩ : ∃ P, Hid (nptr (T2.map Tr.b) = P) := ⟨_, rfl⟩
    have r2' := r2
    rw [hrt2.out] at r2'
    have okq2 := blk_older kq2
    have ckq2_0 : _ = some _ := blk_cell kq2 0
    have ckq2_1 : _ = some _ := blk_cell kq2 1
    have ckq2_2 : _ = some _ := blk_cell kq2 2
    have ckq2_3 : _ = some _ := blk_cell kq2 3
    have fkq2_0 := blk_free kq2 0
    have fkq2_1 := blk_free kq2 1
    have fkq2_2 := blk_free kq2 2
    have fkq2_3 := blk_free kq2 3
    have okc2 := blk_older kc2
    have ckc2_0 : _ = some _ := blk_cell kc2 0
    have ckc2_1 : _ = some _ := blk_cell kc2 1
    have ckc2_2 : _ = some _ := blk_cell kc2 2
    have ckc2_3 : _ = some _ := blk_cell kc2 3
    have ckc2_4 : _ = some _ := blk_cell kc2 4
    have ckc2_5 : _ = some _ := blk_cell kc2 5
    have ckc2_6 : _ = some _ := blk_cell kc2 6
    have ckc2_7 : _ = some _ := blk_cell kc2 7
    have ckc2_8 : _ = some _ := blk_cell kc2 8
    have fkc2_0 := blk_free kc2 0
    have fkc2_1 := blk_free kc2 1
    have fkc2_2 := blk_free kc2 2
    have fkc2_3 := blk_free kc2 3
    have fkc2_4 := blk_free kc2 4
    have fkc2_5 := blk_free kc2 5
    have fkc2_6 := blk_free kc2 6
    have fkc2_7 := blk_free kc2 7
    have fkc2_8 := blk_free kc2 8
    have or2' := blk_older r2'
    have cr2'_0 : _ = some _ := blk_cell r2' 0
    have cr2'_1 : _ = some _ := blk_cell r2' 1
    have fr2'_0 := blk_free r2' 0
    have fr2'_1 := blk_free r2' 1
    clear hl
    go_upto_region 10 with fail
    refine wp_named ?_
    intro Y hY
    have hsz2 := ((But.ofBelow hbX (fun k => k = a ∨ N k)).trans r3 fun _ _ h => h).size
    have kcY : blk Y c #[.int .i64 iQ, .int .i64 x0, .int .i64 y0, .int .i64 x1, .int .i64 y1, .int .i64 hQ', PQ, LQ, RQ] 89 := by rw [hY]; exact (by apply blk_of; (repeat (first | with_reducible exact kc2 | with_reducible apply blk_drew | with_reducible apply blk_gw | with_reducible apply blk_alloc | with_reducible apply blk_set | ((with_reducible apply blk_other); focus omega))); (first | rfl | simp))
    have hBY : But (fun k => k = c) w2 Y := by rw [hY]; exact bBut
    clear hY
    have nca : c ≠ a := fun e => m4 (e ▸ hNc)
    have ncb : c ≠ bm := fun e => nbm (e ▸ hNc)
    have ktY := hBY.blk r2 (Ne.symm nca)
    have hRY : Rep Y (newM M2 c ⟨iQ, ⟨x0, y0, x1, y1⟩, hQ', pQ, lQ, rQ⟩) N := by
      intro k hk
      by_cases e : k = c
      · subst e; rw [newM_self]; simp only [ndc]; rw [hPQ.out, hLQ.out, hRQ.out]; exact kcY
      · rw [newM_other e]; exact hBY.blk (r1 k hk) e
    have mY := mapat_but m2X hBY (fun b e => by cases e; exact Ne.symm ncb)
    have hl6 := r6.length_eq
    simp only [List.length_cons] at hl6
    simp only [olv] at hln
    have cA := attach_b a c (.map (some bm)) _ N Y T2 hRY ktY m4 hNc (r4.same fun k hk => newM_other fun e => r7 (e ▸ hk)) r5 r7 (by omega) (fun h => by rw [newM_self]; exact hQ2.out.2.2 h) i ⟨x0, y0, x1, y1⟩ (by rw [newM_self]; exact hQ2.out.1) (by rw [newM_self]) (by rw [newM_self]; exact hQ2.out.2.1)
    have hB3 : But S w Y := (((But.ofBelow hbX (fun k => k = a ∨ N k)).trans r3 fun _ _ h => h).trans hBY fun k _ h => .inr (h ▸ hNc)).mono (by
      rintro k hk (rfl | h')
      · exact h.sa
      · exact m3 k h')
    have A : Hid (∀ w' (T' : Tr) (M' : Nat → Nd) (N' : Nat → Prop), Rep w' M' N' → blk w' a #[nptr (some T'.b), .map (some bm)] 78 → But (fun k => k = a ∨ N k) Y w' → Top M' T' → (∀ c ∈ T'.bs, N' c) → T'.lv.Perm (olv T2 ++ [(c, i, ⟨x0, y0, x1, y1⟩)]) → (∀ k, N' k → N k ∨ Y.heap.size ≤ k) → Turns a (insL (remL L i) i ⟨x0, y0, x1, y1⟩) S w w') := by
      intro w' T' M' N' s1 s2 s3 s4 s5 s6 s7
      have hp2 := insL_perm i ⟨x0, y0, x1, y1⟩ (remL L i)
      have h1 := (List.perm_cons _).1 ((r6.map (·.2)).symm.trans (m9.trans hpL))
      have hl1 := hpL.length_eq
      simp only [List.length_cons] at hl1
      refine turns_att h.sa (insL_srt _ (remL_srt h.srt i) fun e he => (mem_remL.1 he).2) (fun e he => ?_) (fun e he => ?_) (by rw [hp2.length_eq]; simp; omega) hB3 s1 s2 s3 s4 s5 s6 s7 (fun k hk => .inl (m3 k hk)) (.inl sbm) nbm nba m4 mY (by rw [hp2.length_eq]; simp; omega) ?_ ?_ (blk_lt ktY)
      · rcases List.mem_cons.1 (hp2.mem_iff.1 he) with rfl | he
        · exact hi
        · exact h.keys e (mem_remL.1 he).1
      · rcases List.mem_cons.1 (hp2.mem_iff.1 he) with rfl | he
        · exact hv
        · exact h.vals e (mem_remL.1 he).1
      · refine (h1.append_right _).trans ?_
        exact List.perm_append_comm.trans hp2.symm
      · intro j k
        rw [m10]
        constructor
        · rintro ⟨y, hy⟩
          rcases List.mem_cons.1 (r6.mem_iff.1 hy) with e | hy
          · simp only [Prod.mk.injEq] at e
            exact ⟨⟨x0, y0, x1, y1⟩, List.mem_append.2 (.inr (List.mem_singleton.2 (by rw [e.1, e.2.1])))⟩
          · exact ⟨y, List.mem_append.2 (.inl hy)⟩
        · rintro ⟨y, hy⟩
          rcases List.mem_append.1 hy with hy | hy
          · exact ⟨y, r6.mem_iff.2 (List.mem_cons_of_mem _ hy)⟩
          · simp only [List.mem_singleton, Prod.mk.injEq] at hy
            rw [hy.1, hy.2.1]; exact ⟨x, r6.mem_iff.2 (List.mem_cons_self ..)⟩
    clear m2 m3 m4 m5 m6 m7 m8 m9 m10 h hF hL hm hpL hln hlen sbm nbm hx hc r1 r3 r4 r5 r6 r7 r8 r9 hRY mY hl6 hB3 e1 e2 e3 hQ2 m2X hsN hv hBY hQ hNc
    rw [hrt2.out] at ktY
    have oktY := blk_older ktY
    have cktY_0 : _ = some _ := blk_cell ktY 0
    have cktY_1 : _ = some _ := blk_cell ktY 1
    have fktY_0 := blk_free ktY 0
    have fktY_1 := blk_free ktY 1
    go_wp2_with (go_at_call 60; with_reducible_and_instances refine Calls.mono cA ?_; rintro e w4 ⟨rfl, T', M', N', s1, s2, s3, s4, s5, s6, s7⟩)
    go_ret
    exact ⟨rfl, A.out _ T' M' N' s1 s2 s3 s4 s5 s6 s7⟩

end Go.Proofs.Ytfhhkabdeajieaa
