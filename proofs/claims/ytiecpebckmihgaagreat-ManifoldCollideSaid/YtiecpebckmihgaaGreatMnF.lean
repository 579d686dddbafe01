/- Contracts of chapter 16's reference: Clone and Flip with the row's block, faces (ManifoldCollide). -/
import Derived.Test.YtiecpebckmihgaaGreatMnI
import Derived.Test.YtiecpebckmihgaaGreatMnU
set_option linter.unusedVariables false
namespace Go.Proofs.YtiecpebckmihgaaGreat
open Go.RowKit Fx

def Rowc (c : Array Value) (L : List Cnt) : Prop := ∀ i (h : i < L.length) j, j < 6 → c[i * 6 + j]? = (cnc L[i])[j]?
theorem rowc_of {w : World} {F : Nat} {c : Array Value} {t : TypeId} {L : List Cnt} (hp : Cnts w (some ⟨F, 0, none⟩) L) (hk : blk w F c t) : Rowc c L := fun i hi j hj => by
  rcases hp with h | ⟨b, off, e, hc⟩
  · rw [h] at hi; simp at hi
  · cases e
    obtain ⟨cs, _, k, rfl⟩ := hc i hi
    have := k j hj
    rw [Nat.zero_add, blk_cell hk] at this
    exact this
theorem rowc_to {w : World} {F : Nat} {c : Array Value} {t : TypeId} {L : List Cnt} (h : Rowc c L) (hk : blk w F c t) : Cnts w (some ⟨F, 0, none⟩) L :=
  .inr ⟨F, 0, rfl, fun i hi => ⟨cnc L[i], rfl, fun j hj => by rw [Nat.zero_add, blk_cell hk]; exact h i hi j hj, rfl⟩⟩
theorem rowc_set {c : Array Value} {L : List Cnt} (h : Rowc c L) {k : Nat} (hk : k < L.length) (v : Int) : Rowc (c.setIfInBounds (k * 6 + 3) (.int .i64 v)) (L.set k { L[k] with id := v }) := fun i hi j hj => by
  rw [List.length_set] at hi
  have hlt : k * 6 + 3 < c.size := by
    have := h k hk 3 (by decide)
    exact (Array.getElem?_eq_some_iff.1 (this.trans (show (cnc L[k])[3]? = some (.int .i64 L[k].id) from rfl))).1
  rw [Array.getElem?_setIfInBounds]
  by_cases e : k * 6 + 3 = i * 6 + j
  · obtain rfl : i = k := by omega
    obtain rfl : j = 3 := by omega
    rw [if_pos rfl, if_pos hlt, List.getElem_set_self]; rfl
  · rw [if_neg e, h i hi j hj]
    by_cases e2 : k = i
    · subst e2
      rw [List.getElem_set_self]
      match j, hj, e with
      | 0, _, _ => rfl
      | 1, _, _ => rfl
      | 2, _, _ => rfl
      | 3, _, e => exact absurd rfl e
      | 4, _, _ => rfl
      | 5, _, _ => rfl
    · rw [List.getElem_set_ne e2]
def shl (k : Nat) (l : List Cnt) : List Cnt := (l.take k).map shiftP ++ l.drop k
theorem shl_all (l : List Cnt) : shl l.length l = l.map shiftP := by unfold shl; rw [List.take_length, List.drop_length, List.append_nil]
theorem shl_len (k : Nat) (l : List Cnt) (h : k ≤ l.length) : (shl k l).length = l.length := by
  unfold shl; rw [List.length_append, List.length_map, List.length_take, List.length_drop]; omega
theorem shl_get {k : Nat} {l : List Cnt} (h : k < l.length) : (shl k l)[k]'(by rw [shl_len k l (by omega)]; exact h) = l[k] := by
  unfold shl
  rw [List.getElem_append_right (by rw [List.length_map, List.length_take]; omega)]
  simp [List.length_map, List.length_take, Nat.min_eq_left (Nat.le_of_lt h)]
theorem shl_set {k : Nat} {l : List Cnt} (h : k < l.length) : (shl k l).set k (shiftP l[k]) = shl (k + 1) l := by
  unfold shl
  rw [List.set_append_right _ _ (by rw [List.length_map, List.length_take]; omega), List.length_map, List.length_take, Nat.min_eq_left (Nat.le_of_lt h), Nat.sub_self, List.drop_eq_getElem_cons h, List.set_cons_zero, List.take_succ_eq_append_getElem h, List.map_append]
  simp
theorem fac_shift_nz (a : List Pt) (i r : Int) (b : List Pt) (s : Int) : ((facM a i r b s 4096).flip).nz = ⟨ng (facM a i r b s 0).nz.nx, ng (facM a i r b s 0).nz.ny, (facM a i r b s 0).nz.l.map shiftP⟩ := by
  rw [nz_flip, facM_shift]
  by_cases h : (facM a i r b s 0).l = []
  · rw [nz_nil h, nz_nil (show ({ facM a i r b s 0 with l := (facM a i r b s 0).l.map shiftP } : Mn).l = [] by dsimp only; rw [h]; rfl)]
    rfl
  · rw [nz_pos h, nz_pos (show ({ facM a i r b s 0 with l := (facM a i r b s 0).l.map shiftP } : Mn).l ≠ [] by dsimp only; intro e; exact h (List.map_eq_nil_iff.1 e))]
    rfl
theorem fac_ids {a b : List Pt} {i : Nat} {r s : Int} (hi : i ≤ 1000) (g2 : 2 ≤ b.length) (hb : b.length ≤ 1000) : ∀ c ∈ (facM a (i : Int) r b s 0).nz.l, 0 ≤ c.id ∧ c.id ≤ 100000 := by
  rw [nz_l]
  obtain ⟨j, hjl, hj, -, -⟩ := inc_spec (b := b) (eNor a (i : Int)).1 (eNor a (i : Int)).2 g2
  unfold facM
  rw [hj]
  dsimp only
  intro c hc
  unfold fcL at hc
  obtain ⟨v, hv, hc⟩ := List.mem_flatMap.1 hc
  obtain ⟨h1, h2⟩ := toE_ids a (i : Int) b (j : Int) v hv
  rcases fcP_ok (eNor a (i : Int)).1 (eNor a (i : Int)).2 (hp' a (i : Int).toNat).1 (hp' a (i : Int).toNat).2 r s (0 + 64 * (i : Int) + 8 * (j : Int)) v with h | ⟨c', h, -, -, -, h5⟩
  · rw [h] at hc; cases hc
  · rw [h, List.mem_singleton] at hc; subst hc; omega

set_option maxHeartbeats 4000000 in
theorem rclo2_b (nx ny : Int) (A : Option Addr) (cap : Nat) (l : List Cnt) (hl : l.length ≤ 1000000) (hlc : l.length ≤ cap) (hA : A = none → cap = 0) (w : World) (hp : Cnts w A l) : Calls Tryz.prog 63 #[.agg #[.int .i64 nx, .int .i64 ny, .slice A l.length cap]] w (MnB w ⟨nx, ny, l⟩) := by
  obtain ⟨i0, hi, hz0, hz1, hz2⟩ := info_parts info_cnt
  go_enter Tryz.func63, Tryz.ntmps63
  go_wp2_with fail
  refine wp_named ?_
  intro W hW
  have kB : blk W w.heap.size #[.int .i64 nx, .int .i64 ny, .slice A l.length cap] 34 := by rw [hW]; exact bBkn
  have kR : blk W (w.heap.size + 1) #[.int .i64 0, .int .i64 0, .slice none 0 0] 34 := by rw [hW]; exact bBkn
  have hbW : Below w.heap.size w W := by rw [hW]; exact bBel
  clear hW
  have hszW := hbW.size
  have hP : Cnts W A l := Cnts.to hp hbW
  have hlt := blk_lt kR
  have okB := blk_older kB
  have ckB_0 : _ = some _ := blk_cell kB 0
  have ckB_1 : _ = some _ := blk_cell kB 1
  have ckB_2 : _ = some _ := blk_cell kB 2
  have fkB_0 := blk_free kB 0
  have fkB_1 := blk_free kB 1
  have fkB_2 := blk_free kB 2
  have okR := blk_older kR
  have ckR_0 : _ = some _ := blk_cell kR 0
  have ckR_1 : _ = some _ := blk_cell kR 1
  have ckR_2 : _ = some _ := blk_cell kR 2
  have fkR_0 := blk_free kR 0
  have fkR_1 := blk_free kR 1
  have fkR_2 := blk_free kR 2
  refine wp_mix 7 [0, 1, 0, 0, 8, 28, 63, 127] [] [0, 1, 3, 4, 2, 5, 6] (by kernel_rfl) (by kernel_rfl) ?_
  repeat (first | (refine mix_skip (by rfl) (by rfl) (by rfl) (by rfl) ?_) | (refine mix_early (by rfl) (by rfl) (by rfl) ?_; go_big_quiet_step (fail); with_reducible refine wpQuiet_nil ?_) | (refine mix_late (by rfl) (by rfl) (by rfl) ?_; go_big_quiet_step (fail); with_reducible refine wpQuiet_nil ?_) | (refine mix_call (by rfl) (by rfl) (by rfl) ?_; intro pM Qs hQs; go_wp2_with fail; refine hQs _ _ bBel ?_))
  refine mix_make #[] 39 (some 0) (by rfl) (by rfl) (by rfl) (by rfl) (fun w => by simp [go_sem, mval]) ?_
  intro b5 wb hbb kb hS
  obtain ⟨qb, rfl⟩ := gw_of_below hbb
  clear hbb hS
  simp only [mval]
  repeat (first | (refine mix_skip (by rfl) (by rfl) (by rfl) (by rfl) ?_) | (refine mix_early (by rfl) (by rfl) (by rfl) ?_; go_big_quiet_step (fail); with_reducible refine wpQuiet_nil ?_) | (refine mix_late (by rfl) (by rfl) (by rfl) ?_; go_big_quiet_step (fail); with_reducible refine wpQuiet_nil ?_) | (refine mix_call (by rfl) (by rfl) (by rfl) ?_; intro pM Qs hQs; go_wp2_with (at_builtin; refine wpList_app0 rfl _ _ 32 rfl 39 i0 (.agg #[.int .i64 0, .int .i64 0, .int .i64 0, .int .i64 0, .int .i64 0, .int .i64 0]) 6 48 Tryz.underlying32 hi hz0 hz1 hz2 rfl (by decide) _ rfl _ _ _ (l.flatMap cnc) rfl hA hlc (flat_len cnc_len l) (cs_of_cnts (Cnts.to hP bBel)) (by unfold maxLen; omega) (by omega) ?_; intro A5 c5 w5 hle5 hmx5 hnil5 hcs5 hb5; obtain ⟨q5, rfl⟩ := gw_of_below hb5; clear hb5); refine hQs _ _ bBel ?_))
  refine mix_end ?_
  intro pE
  simp only [List.drop_succ_cons, List.drop_zero]
  go_wp2_with fail
  refine post_named ?_
  intro Z hZ
  have kZ : blk Z (w.heap.size + 1) #[.int .i64 nx, .int .i64 ny, .slice A5 l.length c5] 34 := by rw [hZ]; exact (by apply blk_of; (repeat (first | with_reducible exact kR | with_reducible apply blk_drew | with_reducible apply blk_gw | with_reducible apply blk_alloc | with_reducible apply blk_set | ((with_reducible apply blk_other); focus omega))); (first | rfl | simp))
  have hbZ : Below w.heap.size w Z := by rw [hZ]; exact bBel
  have hPZ : Cnts Z A5 l := by
    rcases hcs5 with h | ⟨bA, cur, rfl, hge, kA, hcur⟩
    · exact cnts_of_cs (.inl h)
    · have hgeW : W.heap.size ≤ bA := by (try simp at hge); omega
      have kA' : blk Z bA cur 39 := by
        rw [hZ]; refine blk_gw (blk_sm ?_ kA)
        repeat (first | with_reducible exact sm_refl _ _ | with_reducible refine sm_gw ?_ | with_reducible refine sm_set ?_ (by omega))
      exact cnts_of_cs (Cs.of_blk kA' hcur)
  have hfr : FrB Z w.heap.size A5 l := by
    rcases hcs5 with h | ⟨bA, cur, rfl, hge, kA, _⟩
    · exact .inl (List.eq_nil_of_length_eq_zero (by have := congrArg List.length h; rw [flat_len cnc_len, List.length_nil] at this; omega))
    · have hgeW : W.heap.size ≤ bA := by (try simp at hge); omega
      refine .inr ⟨bA, cur, 39, rfl, by omega, ?_⟩
      rw [hZ]; refine blk_gw (blk_sm ?_ kA)
      repeat (first | with_reducible exact sm_refl _ _ | with_reducible refine sm_gw ?_ | with_reducible refine sm_set ?_ (by omega))
  clear hZ
  have okZ := blk_older kZ
  have ckZ_0 : _ = some _ := blk_cell kZ 0
  have ckZ_1 : _ = some _ := blk_cell kZ 1
  have ckZ_2 : _ = some _ := blk_cell kZ 2
  have fkZ_0 := blk_free kZ 0
  have fkZ_1 := blk_free kZ 1
  have fkZ_2 := blk_free kZ 2
  exact bodyPost_ret (v := .agg #[.int .i64 nx, .int .i64 ny, .slice A5 l.length c5]) (by simp [results, Tryz.results63, go_sem, ckZ_0, ckZ_1, ckZ_2]) rfl (mnb_mk hle5 hmx5 hnil5 hPZ hfr hbZ)

set_option maxHeartbeats 4000000 in
theorem rflip2_b (nx ny : Int) (A : Option Addr) (cap : Nat) (l : List Cnt) (hl : l.length ≤ 1000000) (hlc : l.length ≤ cap) (hA : A = none → cap = 0) (w : World) (hp : Cnts w A l) : Calls Tryz.prog 30 #[.agg #[.int .i64 nx, .int .i64 ny, .slice A l.length cap]] w (MnB w ⟨ng nx, ng ny, l⟩) := by
  have cC := fun w' h => mnb_ex (rclo2_b nx ny A cap l hl hlc hA w' h)
  go_enter Tryz.func30, Tryz.ntmps30
  go_upto_region 1 with fail
  refine wp_named ?_
  intro W hW
  have kB : blk W w.heap.size #[.int .i64 nx, .int .i64 ny, .slice A l.length cap] 34 := by rw [hW]; exact bBkn
  have kR : blk W (w.heap.size + 1) #[.int .i64 0, .int .i64 0, .slice none 0 0] 34 := by rw [hW]; exact bBkn
  have hbW : Below w.heap.size w W := by rw [hW]; exact bBel
  have hzW : w.heap.size + 2 ≤ W.heap.size := by rw [hW]; simp
  clear hW
  have hP : Cnts W A l := Cnts.to hp hbW
  have okB := blk_older kB
  have ckB_0 : _ = some _ := blk_cell kB 0
  have ckB_1 : _ = some _ := blk_cell kB 1
  have ckB_2 : _ = some _ := blk_cell kB 2
  have fkB_0 := blk_free kB 0
  have fkB_1 := blk_free kB 1
  have fkB_2 := blk_free kB 2
  have okR := blk_older kR
  have ckR_0 : _ = some _ := blk_cell kR 0
  have ckR_1 : _ = some _ := blk_cell kR 1
  have ckR_2 : _ = some _ := blk_cell kR 2
  have fkR_0 := blk_free kR 0
  have fkR_1 := blk_free kR 1
  have fkR_2 := blk_free kR 2
  go_upto_region 2 with (go_at_call 63; refine Calls.mono (cC _ (Cnts.to hP bBel)) ?_; rintro e w1 ⟨⟨A5, c5, rfl, hle5, hmx5, hnil5, hP5, hfr5⟩, q5, rfl⟩)
  refine wp_named ?_
  intro X hX
  have kM1 : blk X (W.heap.size + q5.os.size) #[.int .i64 nx, .int .i64 ny, .slice A5 l.length c5] 34 := by rw [hX]; exact bBkn
  have kB1 : blk X w.heap.size #[.int .i64 nx, .int .i64 ny, .slice A l.length cap] 34 := by rw [hX]; exact (by apply blk_of; (repeat (first | with_reducible exact kB | with_reducible apply blk_drew | with_reducible apply blk_gw | with_reducible apply blk_alloc | with_reducible apply blk_set | ((with_reducible apply blk_other); focus omega))); (first | rfl | simp))
  have kR1 : blk X (w.heap.size + 1) #[.int .i64 0, .int .i64 0, .slice none 0 0] 34 := by rw [hX]; exact (by apply blk_of; (repeat (first | with_reducible exact kR | with_reducible apply blk_drew | with_reducible apply blk_gw | with_reducible apply blk_alloc | with_reducible apply blk_set | ((with_reducible apply blk_other); focus omega))); (first | rfl | simp))
  have hbX : Below w.heap.size w X := by rw [hX]; exact bBel
  have hPX : Cnts X A5 l := by rw [hX]; exact Cnts.to hP5 bBel
  have hfr : l = [] ∨ ∃ b c t, A5 = some ⟨b, 0, none⟩ ∧ w.heap.size + 2 ≤ b ∧ blk X b c t := by
    rcases hfr5 with h | ⟨b, c, t, rfl, hge, kF⟩
    · exact .inl h
    · exact .inr ⟨b, c, t, rfl, by (try simp at hge); omega, by rw [hX]; exact blk_below bBel kF⟩
  have hM2 : w.heap.size + 2 ≤ W.heap.size + q5.os.size := by omega
  clear hX hP5 hfr5 hP okB okR ckB_0 ckB_1 ckB_2 fkB_0 fkB_1 fkB_2 ckR_0 ckR_1 ckR_2 fkR_0 fkR_1 fkR_2 kB kR hbW hzW
  generalize W.heap.size + q5.os.size = M at *
  have okB1 := blk_older kB1
  have ckB1_0 : _ = some _ := blk_cell kB1 0
  have ckB1_1 : _ = some _ := blk_cell kB1 1
  have ckB1_2 : _ = some _ := blk_cell kB1 2
  have fkB1_0 := blk_free kB1 0
  have fkB1_1 := blk_free kB1 1
  have fkB1_2 := blk_free kB1 2
  have okR1 := blk_older kR1
  have ckR1_0 : _ = some _ := blk_cell kR1 0
  have ckR1_1 : _ = some _ := blk_cell kR1 1
  have ckR1_2 : _ = some _ := blk_cell kR1 2
  have fkR1_0 := blk_free kR1 0
  have fkR1_1 := blk_free kR1 1
  have fkR1_2 := blk_free kR1 2
  have okM1 := blk_older kM1
  have ckM1_0 : _ = some _ := blk_cell kM1 0
  have ckM1_1 : _ = some _ := blk_cell kM1 1
  have ckM1_2 : _ = some _ := blk_cell kM1 2
  have fkM1_0 := blk_free kM1 0
  have fkM1_1 := blk_free kM1 1
  have fkM1_2 := blk_free kM1 2
  go_upto_region 3 with fail
  refine wp_named ?_
  intro V hV
  have kM2 : blk V M #[.int .i64 (wrap64 (-nx)), .int .i64 (wrap64 (-ny)), .slice A5 l.length c5] 34 := by rw [hV]; exact (by apply blk_of; (repeat (first | with_reducible exact kM1 | with_reducible apply blk_drew | with_reducible apply blk_gw | with_reducible apply blk_alloc | with_reducible apply blk_set | ((with_reducible apply blk_other); focus omega))); (first | rfl | simp))
  rw [ng_wrap, ng_wrap] at kM2
  have kR2 : blk V (w.heap.size + 1) #[.int .i64 0, .int .i64 0, .slice none 0 0] 34 := by rw [hV]; exact (by apply blk_of; (repeat (first | with_reducible exact kR1 | with_reducible apply blk_drew | with_reducible apply blk_gw | with_reducible apply blk_alloc | with_reducible apply blk_set | ((with_reducible apply blk_other); focus omega))); (first | rfl | simp))
  have g2 : w.heap.size ≤ M := by omega
  have hbV : Below w.heap.size w V := by
    rw [hV]
    repeat (first | with_reducible exact hbX | with_reducible refine Below.setCell ?_ (by exact g2) _)
  have hPV : Cnts V A5 l := by
    refine cnts_keep kM1 hPX fun b hb => ?_
    rw [hV]
    repeat (first | with_reducible exact sm_refl _ _ | with_reducible refine sm_gw ?_ | with_reducible refine sm_set ?_ hb)
  have hfrV : l = [] ∨ ∃ b c t, A5 = some ⟨b, 0, none⟩ ∧ w.heap.size + 2 ≤ b ∧ blk V b c t := by
    rcases hfr with h | ⟨b, c, t, rfl, hge, kF⟩
    · exact .inl h
    · rcases Nat.eq_zero_or_pos l.length with h0 | h0
      · exact .inl (List.eq_nil_of_length_eq_zero h0)
      · have hne := cnts_ne kM1 hPX h0
        refine .inr ⟨b, c, t, rfl, hge, blk_sm ?_ kF⟩
        rw [hV]
        repeat (first | with_reducible exact sm_refl _ _ | with_reducible refine sm_gw ?_ | with_reducible refine sm_set ?_ hne)
  clear hV hfr okB1 ckB1_0 ckB1_1 ckB1_2 fkB1_0 fkB1_1 fkB1_2 okR1 ckR1_0 ckR1_1 ckR1_2 fkR1_0 fkR1_1 fkR1_2 okM1 ckM1_0 ckM1_1 ckM1_2 fkM1_0 fkM1_1 fkM1_2 kB1 kR1 kM1 hbX hPX
  have hszV := hbV.size
  have okM2 := blk_older kM2
  have ckM2_0 : _ = some _ := blk_cell kM2 0
  have ckM2_1 : _ = some _ := blk_cell kM2 1
  have ckM2_2 : _ = some _ := blk_cell kM2 2
  have fkM2_0 := blk_free kM2 0
  have fkM2_1 := blk_free kM2 1
  have fkM2_2 := blk_free kM2 2
  have okR2 := blk_older kR2
  have ckR2_0 : _ = some _ := blk_cell kR2 0
  have ckR2_1 : _ = some _ := blk_cell kR2 1
  have ckR2_2 : _ = some _ := blk_cell kR2 2
  have fkR2_0 := blk_free kR2 0
  have fkR2_1 := blk_free kR2 1
  have fkR2_2 := blk_free kR2 2
  go_wp2_with fail
  refine post_named ?_
  intro Z hZ
  have kZ : blk Z (w.heap.size + 1) #[.int .i64 (ng nx), .int .i64 (ng ny), .slice A5 l.length c5] 34 := by rw [hZ]; exact (by apply blk_of; (repeat (first | with_reducible exact kR2 | with_reducible apply blk_drew | with_reducible apply blk_gw | with_reducible apply blk_alloc | with_reducible apply blk_set | ((with_reducible apply blk_other); focus omega))); (first | rfl | simp))
  have hbZ : Below w.heap.size w Z := by rw [hZ]; exact bBel
  have hPZ : Cnts Z A5 l := by
    refine cnts_keep kR2 hPV fun b hb => ?_
    rw [hZ]
    repeat (first | with_reducible exact sm_refl _ _ | with_reducible refine sm_gw ?_ | with_reducible refine sm_set ?_ hb)
  have hfr2 : FrB Z w.heap.size A5 l := by
    rcases hfrV with h | ⟨b, c, t, rfl, hge, kF⟩
    · exact .inl h
    · refine .inr ⟨b, c, t, rfl, by omega, blk_sm ?_ kF⟩
      rw [hZ]
      repeat (first | with_reducible exact sm_refl _ _ | with_reducible refine sm_gw ?_ | with_reducible refine sm_set ?_ (by omega))
  clear hZ
  have okZ := blk_older kZ
  have ckZ_0 : _ = some _ := blk_cell kZ 0
  have ckZ_1 : _ = some _ := blk_cell kZ 1
  have ckZ_2 : _ = some _ := blk_cell kZ 2
  have fkZ_0 := blk_free kZ 0
  have fkZ_1 := blk_free kZ 1
  have fkZ_2 := blk_free kZ 2
  exact bodyPost_ret (v := .agg #[.int .i64 (ng nx), .int .i64 (ng ny), .slice A5 l.length c5]) (by simp [results, Tryz.results30, go_sem, ckZ_0, ckZ_1, ckZ_2]) rfl (mnb_mk hle5 hmx5 hnil5 hPZ hfr2 hbZ)


end Go.Proofs.YtiecpebckmihgaaGreat
