/- Chapter 22: the program's firstByID.
Chapter 22: the program's ascending, entries. -/
import Derived.Test.YtaahgblkmajceaaGreatBj2
import Derived.Test.YtaahgblkmajceaaGreatBh1
import Derived.Deep.DeepCutAuto
import Derived.Test.YtaahgblkmajceaaGreatSg4

set_option linter.unusedVariables false
set_option linter.unusedSimpArgs false
namespace Go.Proofs.YtaahgblkmajceaaGreat
open Go.RowKit Fx Go.Maps

theorem rng_blk22 {w : World} {b : Nat} {l : List Value} {t : TypeId} (h : blk w b l.toArray t) : w.rangeAt b 0 l := fun j v hv => by rw [Nat.zero_add, blk_cell h]; simpa using hv
theorem below_row22 {w X Y : World} {b : Nat} (hX : Below w.heap.size w X) (hg : X.grownBy Y (some b)) (hb : w.heap.size ≤ b) : Below w.heap.size w Y :=
  ⟨hg.os.trans hX.os, hg.tape.trans hX.tape, hg.output.trans hX.output, Nat.le_trans hX.size hg.size, fun k' hk' => (hg.block k' (Nat.lt_of_lt_of_le hk' hX.size) (by simp; omega)).trans (hX.block k' hk')⟩

set_option maxRecDepth 100000 in
set_option maxHeartbeats 16000000 in
theorem fbid_b (A : Option Addr) (cap : Nat) (l : List Bdy) (hl : l.length ≤ 1000) (w : World) (h : Bods w A l) : Calls Tryz.prog 27 #[.slice A l.length cap] w fun e w' => (∃ b, e = .returned (.map (some b)) ∧ w.heap.size ≤ b ∧ MBod l w' b (getB (fsB l)) (fsB l).length) ∧ Below w.heap.size w w' := by
  have hmm := @run_makeMap Tryz.prog
  go_enter Tryz.func27, Tryz.ntmps27
  go_upto_region 3 with fail
  refine wp_named ?_
  intro W hW
  have hbW : Below w.heap.size w W := by rw [hW]; exact bBel
  have hM0 : MBod l W w.heap.size (getB (fsB (l.take 0))) (fsB (l.take 0)).length := by rw [hW]; exact (MBod.new l w).congr (fun i => rfl) rfl
  clear hW hmm
  have hszW := hbW.size
  go_wp2_with fail
  go_loopw [11] (fun i wr => ∃ k : Nat, k ≤ l.length ∧ i = .int .i64 (k : Int) ∧ MBod l wr w.heap.size (getB (fsB (l.take k))) (fsB (l.take k)).length ∧ Below w.heap.size w wr) (fun i _ => l.length - (intOf i).toNat)
  case atStart => exact ⟨0, by omega, rfl, hM0, hbW⟩
  case round =>
    obtain ⟨k, hk, rfl, hM, hbR⟩ := hrel
    have hszR := hbR.size
    have hMlt := hM.lt
    by_cases hlt : k < l.length
    · obtain ⟨b, off, rfl, hbl, hc0⟩ := bods_open h (by omega)
      obtain ⟨hq, hr0⟩ := hc0 k hlt
      obtain ⟨ob, hr⟩ := hr0 wr hbR
      have hkk : i64k l[k].i := hq.2.1
      have hst : Hid (fsB (l.take (k + 1)) = stepB (fsB (l.take k)) l[k]) := fsB_take hlt
      have hmem : Hid (l[k] ∈ l) := List.getElem_mem hlt
      have hle := fsB_len l k (by omega)
      clear hc0 hq hr0
      generalize fsB (l.take k) = O at *
      generalize l[k] = f at *
      obtain ⟨ia, ka, pxa, pya, paa, vxa, vya, ava, fxa, fya, tqa, lda, ada, gsa, bula, fixa, nosa, asla, idla, Aa, capa, fsa⟩ := f
      dsimp only at hkk
      have hr' : Hid (wr.rangeAt b (off + k * 20) [.int .i64 ia, .int .i64 ka, .int .i64 pxa, .int .i64 pya, .int .i64 paa, .int .i64 vxa, .int .i64 vya, .int .i64 ava, .int .i64 fxa, .int .i64 fya, .int .i64 tqa, .int .i64 lda, .int .i64 ada, .int .i64 gsa, .bool bula, .bool fixa, .bool nosa, .bool asla, .int .i64 idla, .slice Aa fsa.length capa]) := hr
      clear hr
      go_upto_region 5 with (first
        | (refine wpList_load_mid rfl 37 _ rfl b (off + k * 20) rfl _ _ hr'.out Tryz.underlying37 rfl (by kernel_rfl) ?_)
        | (refine wpList_store_wide rfl 37 _ _ rfl wr.heap.size [.int .i64 ia, .int .i64 ka, .int .i64 pxa, .int .i64 pya, .int .i64 paa, .int .i64 vxa, .int .i64 vya, .int .i64 ava, .int .i64 fxa, .int .i64 fya, .int .i64 tqa, .int .i64 lda, .int .i64 ada, .int .i64 gsa, .bool bula, .bool fixa, .bool nosa, .bool asla, .int .i64 idla, .slice Aa fsa.length capa] rfl rfl _ _ bBkn (by kernel_rfl) (by kernel_rfl) (by kernel_rfl) ?_; intro V kV hbV koV hzV))
      have hbRV : Below wr.heap.size wr V := hbV _ _ (Nat.le_refl _) bBel
      have hlV : wr.heap.size < V.heap.size := blk_lt kV
      clear hbV koV hr' ob hzV
      have hszV := hbRV.size
      have hMV := hM.to hbRV
      have oV : older wr.heap.size V = true := blk_older kV
      have q0 : V.cell? ⟨wr.heap.size, 0, none⟩ = some (.int .i64 ia) := blk_cell kV 0
      have hbwV : Below w.heap.size w V := Below.trans hbR (hbRV.mono hszR)
      cases hg : getB O ia with
      | none =>
        have hgh : Hid (getB O ia = none) := hg
        have hh : Hid (hasB O ia = false) := by show _ = _; rw [← getB_some, hg]; rfl
        have hlook0 := MBod.lookok hMV hkk
        rw [hg] at hlook0
        have hlook : (Instr.lookup 71 (.map (some w.heap.size)) (.int .i64 ia) true).run Tryz.prog V = .ok (.tuple #[.agg #[.int .i64 0, .int .i64 0, .int .i64 0, .int .i64 0, .int .i64 0, .int .i64 0, .int .i64 0, .int .i64 0, .int .i64 0, .int .i64 0, .int .i64 0, .int .i64 0, .int .i64 0, .int .i64 0, .bool false, .bool false, .bool false, .bool false, .int .i64 0, .slice none 0 0], .bool false]) V := hlook0
        clear hlook0 hg
        go_upto_region 7 with (refine wpList_store_wide rfl 37 _ _ rfl V.heap.size [.int .i64 0, .int .i64 0, .int .i64 0, .int .i64 0, .int .i64 0, .int .i64 0, .int .i64 0, .int .i64 0, .int .i64 0, .int .i64 0, .int .i64 0, .int .i64 0, .int .i64 0, .int .i64 0, .bool false, .bool false, .bool false, .bool false, .int .i64 0, .slice none 0 0] rfl rfl _ _ bBkn (by kernel_rfl) (by kernel_rfl) (by kernel_rfl) ?_; intro U kU hbU koU hzU)
        have kVU := koU wr.heap.size _ _ (by omega) (by apply blk_alloc; exact kV)
        have hbVU : Below V.heap.size V U := hbU _ _ (Nat.le_refl _) bBel
        have hszU := hbVU.size
        have hMU := hMV.to hbVU
        clear hbU koU kU kV hMV hlook q0 oV hzU
        have oU : older wr.heap.size U = true := blk_older kVU
        have q0 : U.cell? ⟨wr.heap.size, 0, none⟩ = some (.int .i64 ia) := blk_cell kVU 0
        obtain ⟨Z, hput0, hMZ, hgZ⟩ := MBod.put hMU hkk (by omega) hgh.out ⟨ia, ka, pxa, pya, paa, vxa, vya, ava, fxa, fya, tqa, lda, ada, gsa, bula, fixa, nosa, asla, idla, Aa, capa, fsa⟩ hmem.out
        have hput : (Instr.mapUpdate 71 (.map (some w.heap.size)) (.int .i64 ia) (.agg #[.int .i64 ia, .int .i64 ka, .int .i64 pxa, .int .i64 pya, .int .i64 paa, .int .i64 vxa, .int .i64 vya, .int .i64 ava, .int .i64 fxa, .int .i64 fya, .int .i64 tqa, .int .i64 lda, .int .i64 ada, .int .i64 gsa, .bool bula, .bool fixa, .bool nosa, .bool asla, .int .i64 idla, .slice Aa fsa.length capa])).run Tryz.prog U = .ok () Z := hput0
        clear hput0 hMU
        have hbwU : Below w.heap.size w U := Below.trans hbwV (hbVU.mono (Nat.le_trans hszR hszV))
        have hbZ := below_row22 hbwU hgZ (Nat.le_refl _)
        have hst2 : Hid (fsB (l.take (k + 1)) = O ++ [⟨ia, ka, pxa, pya, paa, vxa, vya, ava, fxa, fya, tqa, lda, ada, gsa, bula, fixa, nosa, asla, idla, Aa, capa, fsa⟩]) := by show _ = _; rw [hst.out]; unfold stepB; rw [if_neg (by rw [hh.out]; simp)]
        have hM2 : MBod l Z w.heap.size (getB (fsB (l.take (k + 1)))) (fsB (l.take (k + 1))).length := by
          rw [hst2.out]
          exact hMZ.congr (fun j => getB_snoc (b := ⟨ia, ka, pxa, pya, paa, vxa, vya, ava, fxa, fya, tqa, lda, ada, gsa, bula, fixa, nosa, asla, idla, Aa, capa, fsa⟩) hh.out j) (by simp)
        clear hMZ hst
        go_wp2_with (refine wpList_load_mid rfl 37 _ rfl wr.heap.size 0 rfl _ _ (rng_blk22 (l := [.int .i64 ia, .int .i64 ka, .int .i64 pxa, .int .i64 pya, .int .i64 paa, .int .i64 vxa, .int .i64 vya, .int .i64 ava, .int .i64 fxa, .int .i64 fya, .int .i64 tqa, .int .i64 lda, .int .i64 ada, .int .i64 gsa, .bool bula, .bool fixa, .bool nosa, .bool asla, .int .i64 idla, .slice Aa fsa.length capa]) kVU) Tryz.underlying37 rfl (by kernel_rfl) ?_)
        exact ⟨⟨k + 1, by omega, by go_num, hM2, hbZ⟩, by (try go_num); simp [intOf]; (try omega)⟩
      | some c =>
        have hh : Hid (hasB O ia = true) := by show _ = _; rw [← getB_some, hg]; rfl
        have hlook0 := MBod.lookok hMV hkk
        rw [hg] at hlook0
        clear hg
        have hst2 : Hid (fsB (l.take (k + 1)) = O) := by show _ = _; rw [hst.out]; unfold stepB; rw [if_pos hh.out]
        obtain ⟨ic, kc, pxc, pyc, pac, vxc, vyc, avc, fxc, fyc, tqc, ldc, adc, gsc, bulc, fixc, nosc, aslc, idlc, Ac, capc, fsc⟩ := c
        have hlook : (Instr.lookup 71 (.map (some w.heap.size)) (.int .i64 ia) true).run Tryz.prog V = .ok (.tuple #[.agg #[.int .i64 ic, .int .i64 kc, .int .i64 pxc, .int .i64 pyc, .int .i64 pac, .int .i64 vxc, .int .i64 vyc, .int .i64 avc, .int .i64 fxc, .int .i64 fyc, .int .i64 tqc, .int .i64 ldc, .int .i64 adc, .int .i64 gsc, .bool bulc, .bool fixc, .bool nosc, .bool aslc, .int .i64 idlc, .slice Ac fsc.length capc], .bool true]) V := hlook0
        clear hlook0 hst
        go_wp2_with (refine wpList_store_wide rfl 37 _ _ rfl V.heap.size [.int .i64 ic, .int .i64 kc, .int .i64 pxc, .int .i64 pyc, .int .i64 pac, .int .i64 vxc, .int .i64 vyc, .int .i64 avc, .int .i64 fxc, .int .i64 fyc, .int .i64 tqc, .int .i64 ldc, .int .i64 adc, .int .i64 gsc, .bool bulc, .bool fixc, .bool nosc, .bool aslc, .int .i64 idlc, .slice Ac fsc.length capc] rfl rfl _ _ bBkn (by kernel_rfl) (by kernel_rfl) (by kernel_rfl) ?_; intro U kU hbU koU hzU)
        have hbVU : Below V.heap.size V U := hbU _ _ (Nat.le_refl _) bBel
        have hM2 : MBod l U w.heap.size (getB (fsB (l.take (k + 1)))) (fsB (l.take (k + 1))).length := by
          rw [hst2.out]; exact hMV.to hbVU
        exact ⟨⟨k + 1, by omega, by go_num, hM2, Below.trans hbwV (hbVU.mono (Nat.le_trans hszR hszV))⟩, by (try go_num); simp [intOf]; (try omega)⟩
    · obtain rfl : k = l.length := by omega
      rw [List.take_length] at hM
      go_wp2_with fail
      go_ret
      exact ⟨⟨_, rfl, Nat.le_refl _, hM⟩, hbR⟩

end Go.Proofs.YtaahgblkmajceaaGreat

set_option linter.unusedVariables false
set_option linter.unusedSimpArgs false
namespace Go.Proofs.YtaahgblkmajceaaGreat
open Go.RowKit Fx Go.Maps

theorem info_bdy : (Tryz.prog.info? 37).map (fun i => (i.zero, i.size, i.bytes)) = some (some (.agg #[.int .i64 0, .int .i64 0, .int .i64 0, .int .i64 0, .int .i64 0, .int .i64 0, .int .i64 0, .int .i64 0, .int .i64 0, .int .i64 0, .int .i64 0, .int .i64 0, .int .i64 0, .int .i64 0, .bool false, .bool false, .bool false, .bool false, .int .i64 0, .slice none 0 0]), 20, 152) := by kernel_rfl
theorem bdc_one (f : Bdy) : ∀ u ∈ bdc f, u.oneCell' = true := fun u hu => by
  simp only [bdc, List.mem_cons, List.not_mem_nil, or_false] at hu
  rcases hu with rfl | rfl | rfl | rfl | rfl | rfl | rfl | rfl | rfl | rfl | rfl | rfl | rfl | rfl | rfl | rfl | rfl | rfl | rfl | rfl <;> rfl
def bvv (l : List Bdy) : List Value := l.flatMap bdc
theorem bvv_len (l : List Bdy) : (bvv l).length = l.length * 20 := flat_len bdc_len l
theorem bvv_snoc (l : List Bdy) (e : Bdy) : bvv (l ++ [e]) = bvv l ++ bdc e := by simp [bvv]

set_option maxRecDepth 100000 in
set_option maxHeartbeats 16000000 in
theorem asc_b (b : Nat) (l : List Bdy) (hl : l.length ≤ 1000) (hk64 : ∀ x ∈ l, i64k x.i) (w : World) (hM : MBod l w b (getB (fsB l)) (fsB l).length) : Calls Tryz.prog 28 #[.map (some b)] w fun e w' => (∃ v, e = .returned v ∧ w'.ownsRow w.heap.size 37 20 v (ascB l).length (bvv (ascB l))) ∧ Below w.heap.size w w' := by
  have hk64' : Hid (∀ x ∈ l, i64k x.i) := hk64
  clear hk64
  obtain ⟨i0, hi, hz0, hz1, hz2⟩ := info_parts info_bdy
  have hfl := fsB_len l l.length (Nat.le_refl _)
  rw [List.take_length] at hfl
  have kt : blk (w.alloc (.cells #[.map (some b)] 71)) w.heap.size #[.map (some b)] 71 := blk_new _ _ _
  have hal : Below w.heap.size w (w.alloc (.cells #[.map (some b)] 71)) := (Below.refl _ w).alloc (Nat.le_refl _) _
  have cS := msorted_b w.heap.size b l (idsB l) (getB (fsB l)) (fsB l).length _ (blk_lt kt) (blk_cell kt 0) (hM.to hal) (by omega) (idsB_srt l) (fun i => idsB_mem.symm)
  have hsl := ascB_len l
  clear hfl kt
  go_enter Tryz.func28, Tryz.ntmps28
  go_upto_region 3 with (first | (go_at_call 45; with_reducible_and_instances refine Calls.mono (mkeys_b (some b) _) ?_; rintro e w1 ⟨rfl, rfl⟩) | (go_at_call 44; with_reducible_and_instances refine Calls.mono cS ?_; rintro e W ⟨⟨v, rfl, ho⟩, hb1⟩; have hlen : ∀ ty W', (Builtin.len_ #[94] ty #[v]).run Tryz.prog W' = .ok (.int .i64 ((ascB l).length : Int)) W' := (fun ty W' => by have := row_len u_ints ho ty W'; rw [idsB_len] at this; exact this)))
  have hbW : Below w.heap.size w W := Below.trans hal (hb1.mono (by simp))
  clear hb1 cS hal hlen
  have hszW := hbW.size
  have hix := fun k hk => ints_ix ho (k := k) hk
  have hixH := show Hid _ from hix
  clear hix ho
  obtain ⟨S, hS⟩ : ∃ S, Hid (ascB l = S) := ⟨_, rfl⟩
  rw [hS.out] at hsl ⊢
  go_loopw [3, 10] (fun c i wr => ∃ k : Nat, k ≤ S.length ∧ i = .int .i64 (k : Int) ∧ wr.ownsRow W.heap.size 37 20 c (S.take k).length (bvv (S.take k)) ∧ Below W.heap.size W wr) (fun _ i _ => S.length - (intOf i).toNat)
  case atStart => exact ⟨0, by omega, rfl, World.ownsRow_nil _ _ _ _, Below.refl _ _⟩
  case round =>
    obtain ⟨k, hk, rfl, hown, hbR⟩ := hrel
    have hszR := hbR.size
    have hbwR : Below w.heap.size w wr := Below.trans hbW (hbR.mono hszW)
    by_cases hlt : k < S.length
    · have hlt0 : k < (ascB l).length := by rw [hS.out]; exact hlt
      obtain ⟨g, -, hixk, hcell⟩ := hixH.out k (by rw [idsB_len]; exact hlt0)
      obtain ⟨og, d0⟩ := hcell wr hbR
      have hmem0 : (ascB l)[k] ∈ ascB l := List.getElem_mem hlt0
      have he : (idsB l)[k]'(by rw [idsB_len]; exact hlt0) = (ascB l)[k].i := by simp [idsB]
      have d1 : wr.cell? ⟨g, k, none⟩ = some (.int .i64 (ascB l)[k].i) := by rw [d0, he]
      have hlook0 := MBod.look (hM.to hbwR) (hk64'.out _ (ascB_sub hmem0))
      rw [getB_asc l hmem0] at hlook0
      have hst : Hid (S.take (k + 1) = S.take k ++ [(ascB l)[k]]) := by
        show _ = _
        rw [← List.take_append_getElem hlt]; congr 2; congr 1; exact hS.out.symm
      have hix2 : (Instr.indexAt 94 v (.int .i64 (k : Int))).run Tryz.prog wr = .ok (.pointer (some ⟨g, k, none⟩)) wr := hixk wr
      have hlS : (S.take k).length ≤ k := by rw [List.length_take]; omega
      clear d0 he hcell hmem0 hixk
      generalize (ascB l)[k] = f at *
      clear hlt0
      obtain ⟨ia, ka, pxa, pya, paa, vxa, vya, ava, fxa, fya, tqa, lda, ada, gsa, bula, fixa, nosa, asla, idla, Aa, capa, fsa⟩ := f
      dsimp only at d1 hlook0
      have hlook : (Instr.lookup 71 (.map (some b)) (.int .i64 ia) false).run Tryz.prog wr = .ok (.agg #[.int .i64 ia, .int .i64 ka, .int .i64 pxa, .int .i64 pya, .int .i64 paa, .int .i64 vxa, .int .i64 vya, .int .i64 ava, .int .i64 fxa, .int .i64 fya, .int .i64 tqa, .int .i64 lda, .int .i64 ada, .int .i64 gsa, .bool bula, .bool fixa, .bool nosa, .bool asla, .int .i64 idla, .slice Aa fsa.length capa]) wr := hlook0
      clear hlook0
      generalize hT : S.take k = T at *
      clear hT
      go_wp2_with (at_builtin; refine wpList_app21 rfl _ _ 22 rfl W.heap.size 37 i0 (.agg #[.int .i64 0, .int .i64 0, .int .i64 0, .int .i64 0, .int .i64 0, .int .i64 0, .int .i64 0, .int .i64 0, .int .i64 0, .int .i64 0, .int .i64 0, .int .i64 0, .int .i64 0, .int .i64 0, .bool false, .bool false, .bool false, .bool false, .int .i64 0, .slice none 0 0]) 20 152 (by kernel_rfl) hi hz0 hz1 hz2 (by kernel_rfl) (by decide) _ _ _ rfl (owns_below hown bBel) _ [.int .i64 ia, .int .i64 ka, .int .i64 pxa, .int .i64 pya, .int .i64 paa, .int .i64 vxa, .int .i64 vya, .int .i64 ava, .int .i64 fxa, .int .i64 fya, .int .i64 tqa, .int .i64 lda, .int .i64 ada, .int .i64 gsa, .bool bula, .bool fixa, .bool nosa, .bool asla, .int .i64 idla, .slice Aa fsa.length capa] 37 rfl (by kernel_rfl) bBkn (bdc_one ⟨ia, ka, pxa, pya, paa, vxa, vya, ava, fxa, fya, tqa, lda, ada, gsa, bula, fixa, nosa, asla, idla, Aa, capa, fsa⟩) (by unfold maxLen; omega) (by omega) (by first | (simp; omega) | omega) ?_; intro v' w2 hown2 hb2 hg2 ho2)
      refine ⟨⟨k + 1, by omega, by go_num, ?_, Below.trans bBel hb2⟩, by (try go_num); simp [intOf]; (try omega)⟩
      rw [hst.out, bvv_snoc, List.length_append]; exact hown2
    · obtain rfl : k = S.length := by omega
      rw [List.take_length] at hown
      go_wp2_with fail
      go_ret
      rw [← hS.out] at hown
      exact ⟨⟨_, rfl, owns_base hown hszW⟩, hbwR⟩

/-! ### Proxies in memory -/
def pxc (x : Pxy) : List Value := [.int .i64 x.1.i, .int .i64 (x.2 : Int), .int .i64 (pbx x).x0, .int .i64 (pbx x).y0, .int .i64 (pbx x).x1, .int .i64 (pbx x).y1]
theorem pxc_len (x : Pxy) : (pxc x).length = 6 := rfl
def pxv (l : List Pxy) : List Value := l.flatMap pxc
theorem pxv_len (l : List Pxy) : (pxv l).length = l.length * 6 := flat_len pxc_len l
theorem pxv_snoc (l : List Pxy) (e : Pxy) : pxv (l ++ [e]) = pxv l ++ pxc e := by simp [pxv]
abbrev Pxs (w : World) (A : Option Addr) (l : List Pxy) : Prop := Els w 6 (fun cs f => cs = pxc f) A l
theorem Pxs.to {w w' : World} {A : Option Addr} {l : List Pxy} (h : Pxs w A l) (hb : Below w.heap.size w w') : Pxs w' A l := Els.to h (by decide) (fun _ _ h => h) hb
theorem pxs_open {w : World} {A : Option Addr} {l : List Pxy} (h : Pxs w A l) (h0 : 0 < l.length) : ∃ b off, A = some ⟨b, off, none⟩ ∧ b < w.heap.size ∧ ∀ i (h : i < l.length) w', Below w.heap.size w w' → older b w' = true ∧ w'.cell? ⟨b, off + i * 6, none⟩ = some (.int .i64 l[i].1.i) ∧ w'.cell? ⟨b, off + i * 6 + 1, none⟩ = some (.int .i64 (l[i].2 : Int)) ∧ w'.cell? ⟨b, off + i * 6 + 2, none⟩ = some (.int .i64 (pbx l[i]).x0) ∧ w'.cell? ⟨b, off + i * 6 + 3, none⟩ = some (.int .i64 (pbx l[i]).y0) ∧ w'.cell? ⟨b, off + i * 6 + 4, none⟩ = some (.int .i64 (pbx l[i]).x1) ∧ w'.cell? ⟨b, off + i * 6 + 5, none⟩ = some (.int .i64 (pbx l[i]).y1) := by
  rcases h with h | ⟨b, off, rfl, hc⟩
  · rw [h] at h0; simp at h0
  · have hlt : b < w.heap.size := by
      obtain ⟨cs, _, k, rfl⟩ := hc 0 h0
      exact World.block_lt_of_cell? w ⟨b, off + 0 * 6 + 0, none⟩ (show _ = some (Value.int .i64 l[0].1.i) from k 0 (by decide))
    refine ⟨b, off, rfl, hlt, fun i hi w' hb => ?_⟩
    obtain ⟨cs, _, k, rfl⟩ := hc i hi
    exact ⟨(by have := hb.size; simp [older]; omega), (hb.cell (p := ⟨b, off + i * 6 + 0, none⟩) hlt).trans (k 0 (by decide)), (hb.cell (p := ⟨b, off + i * 6 + 1, none⟩) hlt).trans (k 1 (by decide)), (hb.cell (p := ⟨b, off + i * 6 + 2, none⟩) hlt).trans (k 2 (by decide)), (hb.cell (p := ⟨b, off + i * 6 + 3, none⟩) hlt).trans (k 3 (by decide)), (hb.cell (p := ⟨b, off + i * 6 + 4, none⟩) hlt).trans (k 4 (by decide)), (hb.cell (p := ⟨b, off + i * 6 + 5, none⟩) hlt).trans (k 5 (by decide))⟩
theorem owns_pxs {w : World} {B : Nat} {e : TypeId} {v : Value} {n : Nat} {l : List Pxy} (h : w.ownsRow B e 6 v n (pxv l)) : ∃ A cap, v = .slice A l.length cap ∧ n = l.length ∧ l.length ≤ cap ∧ cap ≤ maxLen ∧ Pxs w A l := by
  obtain ⟨A, cap, h1, h2, h3, h4, h5, _⟩ := owns_els (c := pxc) pxc_len (by decide) h
  exact ⟨A, cap, h1, h2, h3, h4, h5⟩

set_option maxRecDepth 100000 in
set_option maxHeartbeats 8000000 in
theorem ent_b (A : Option Addr) (cap : Nat) (l : List Pxy) (hl : l.length ≤ 100000) (w : World) (h : Pxs w A l) : Calls Tryz.prog 29 #[.slice A l.length cap] w fun e w' => (∃ v, e = .returned v ∧ w'.ownsRow w.heap.size 46 5 v (ens l).length (ev (ens l))) ∧ Below w.heap.size w w' := by
  obtain ⟨i0, hi, hz0, hz1, hz2⟩ := info_parts info_ent
  go_enter Tryz.func29, Tryz.ntmps29
  go_wp2_with fail
  go_loopw [3, 8] (fun c i wr => ∃ k : Nat, k ≤ l.length ∧ i = .int .i64 (k : Int) ∧ wr.ownsRow w.heap.size 46 5 c (ens (l.take k)).length (ev (ens (l.take k))) ∧ Below w.heap.size w wr) (fun _ i _ => l.length - (intOf i).toNat)
  case atStart => exact ⟨0, by omega, rfl, World.ownsRow_nil _ _ _ _, Below.refl _ _⟩
  case round =>
    obtain ⟨k, hk, rfl, hown, hbR⟩ := hrel
    have hszR := hbR.size
    by_cases hlt : k < l.length
    · obtain ⟨b, off, rfl, hbl, hc⟩ := pxs_open h (by omega)
      obtain ⟨ob, d0, d1, d2, d3, d4, d5⟩ := hc k hlt wr hbR
      have hst : Hid (ens (l.take (k + 1)) = ens (l.take k) ++ [((k : Int), pbx l[k])]) := ens_take hlt
      have hle : (ens (l.take k)).length ≤ k := by rw [ens_len, List.length_take]; omega
      clear hc
      generalize ens (l.take k) = T at *
      generalize pbx l[k] = x at *
      generalize l[k].1.i = i1 at *
      generalize l[k].2 = i2 at *
      obtain ⟨x0, y0, x1, y1⟩ := x
      dsimp only at d2 d3 d4 d5
      go_wp2_with (at_builtin; refine wpList_app21 rfl _ _ 38 rfl w.heap.size 46 i0 (.agg #[.int .i64 0, .int .i64 0, .int .i64 0, .int .i64 0, .int .i64 0]) 5 40 (by kernel_rfl) hi hz0 hz1 hz2 rfl (by decide) _ _ _ rfl (owns_below hown bBel) _ [.int .i64 (k : Int), .int .i64 x0, .int .i64 y0, .int .i64 x1, .int .i64 y1] 46 rfl rfl bBkn (by intro u hu; simp at hu; rcases hu with rfl | rfl | rfl | rfl | rfl <;> rfl) (by unfold maxLen; omega) (by omega) (by first | (simp; omega) | omega) ?_; intro v' w2 hown2 hb2 hg2 ho2)
      refine ⟨⟨k + 1, by omega, by go_num, ?_, Below.trans bBel hb2⟩, by (try go_num); simp [intOf]; (try omega)⟩
      rw [hst.out, ev_snoc, List.length_append]; exact hown2
    · obtain rfl : k = l.length := by omega
      rw [List.take_length] at hown
      go_wp2_with fail
      go_ret
      exact ⟨⟨_, rfl, hown⟩, hbR⟩

end Go.Proofs.YtaahgblkmajceaaGreat
