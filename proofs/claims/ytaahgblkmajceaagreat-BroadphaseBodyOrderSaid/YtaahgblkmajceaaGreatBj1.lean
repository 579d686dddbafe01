/- Chapter 22, mathematics: the example.
Chapter 22: the statements' circleBody and example.
Chapter 22: the statements' example. -/
import Derived.Test.YtaahgblkmajceaaGreatBqA
import Derived.Test.YtaahgblkmajceaaGreatBqH
import Derived.Test.YtaahgblkmajceaaGreatBqI
import Derived.Great.BuildSlice

set_option linter.unusedVariables false
set_option linter.unusedSimpArgs false
namespace Go.Proofs.YtaahgblkmajceaaGreat
open Go.RowKit Fx

def cirF (v : Option Addr) : Fxr := ⟨1, 65536, v, 1, [(0, 0)], 0, 0, 0, false, 1, 1, 0⟩
def cirB (id x : Int) (fa v : Option Addr) : Bdy := ⟨id, 3, x, 0, 0, 0, 0, 0, 0, 0, 0, 0, 0, 0, false, false, false, false, 0, fa, 1, [cirF v]⟩
theorem cir_okF (id x : Int) (fa v : Option Addr) : okF (cirB id x fa v) := ⟨show 1 ≤ 8 by decide, fun f hf => by
  simp [cirB] at hf; subst hf; exact (show 1 ≤ 20 by decide)⟩
theorem cir_fbx (id x : Int) (fa v : Option Addr) : fbx (cirB id x fa v) (cirF v) = Bx.exp ((Bx.one (add 0 x, add 0 0)).mar 65536) 1024 := by
  have hv : valS 1 65536 [(0, 0)] = 0 := by decide
  unfold fbx bndS
  show Bx.exp (if valS 1 65536 [(0, 0)] = 0 then (Bx.pts ([(0, 0)].map (tr x 0 0))).mar 65536 else Bx.zero) 1024 = _
  rw [if_pos hv]
  show Bx.exp ((Bx.one (tpx x 0 0 0, tpy 0 0 0 0)).mar 65536) 1024 = _
  rw [tpx_none, tpy_none]
theorem ex22_near : Bx.ovl (Bx.exp ((Bx.one (add 0 133119, add 0 0)).mar 65536) 1024) (Bx.exp ((Bx.one (add 0 0, add 0 0)).mar 65536) 1024) = true := by decide
theorem ex22_far : Bx.ovl (Bx.exp ((Bx.one (add 0 133121, add 0 0)).mar 65536) 1024) (Bx.exp ((Bx.one (add 0 0, add 0 0)).mar 65536) 1024) = false := by decide
theorem ex22_shc : shc 0 1 1 0 1 1 = true := by decide
theorem ex22_hit (x : Int) (fa va fb vb : Option Addr) (H : Bool) (hx : Bx.ovl (Bx.exp ((Bx.one (add 0 x, add 0 0)).mar 65536) 1024) (Bx.exp ((Bx.one (add 0 0, add 0 0)).mar 65536) 1024) = H) : hitF (cirB 2 x fb vb) (cirB 7 0 fa va) 0 0 = H := by
  have e : hitF (cirB 2 x fb vb) (cirB 7 0 fa va) 0 0 = (shc 0 1 1 0 1 1 && Bx.ovl (fbx (cirB 2 x fb vb) (cirF vb)) (fbx (cirB 7 0 fa va) (cirF va))) := hitF_at (a := cirB 2 x fb vb) (b := cirB 7 0 fa va) (show 0 < 1 by decide) (show 0 < 1 by decide)
  rw [e, cir_fbx, cir_fbx, hx, ex22_shc]; rfl
theorem ex22_o (x : Int) (fa va fb vb : Option Addr) : okAB [cirB 7 0 fa va, cirB 2 x fb vb] [] 0 0 = false ∧ okAB [cirB 7 0 fa va, cirB 2 x fb vb] [] 0 1 = false ∧ okAB [cirB 7 0 fa va, cirB 2 x fb vb] [] 1 0 = true ∧ okAB [cirB 7 0 fa va, cirB 2 x fb vb] [] 1 1 = false := by
  refine ⟨?_, ?_, ?_, ?_⟩ <;> simp [okAB, fstB, cirB, cnj]
theorem kab_no {l : List Bdy} {js : List Jnt} {i k : Nat} (h : okAB l js i k = false) : kab l js i k = [] := by
  unfold kab; split
  · rw [h]; rfl
  · rfl
theorem kab_yes {l : List Bdy} {js : List Jnt} {i k : Nat} {a b : Bdy} (h1 : l[i]? = some a) (h2 : l[k]? = some b) (h : okAB l js i k = true) : kab l js i k = kp a b a.fs.length := by
  unfold kab; rw [h1, h2]; dsimp only; rw [if_pos h]
theorem kk_two (l : List Bdy) (js : List Jnt) (i : Nat) : kk l js i 2 = kab l js i 0 ++ kab l js i 1 := by
  rw [kk_succ, kk_succ]; simp [kk]
theorem ki_two (l : List Bdy) (js : List Jnt) (h : l.length = 2) : ki l js 2 = (kab l js 0 0 ++ kab l js 0 1) ++ (kab l js 1 0 ++ kab l js 1 1) := by
  rw [ki_succ, ki_succ, h, kk_two, kk_two]; simp [ki]
theorem kp_one (a b : Bdy) (h : b.fs.length = 1) : kp a b 1 = kq a b 0 1 := by
  rw [kp_succ, h]; simp [kp]
theorem cir_len (id x : Int) (fa v : Option Addr) : (cirB id x fa v).fs.length = 1 := rfl
theorem ki_pair (a b : Bdy) (o1 : okAB [a, b] [] 0 0 = false) (o2 : okAB [a, b] [] 0 1 = false) (o3 : okAB [a, b] [] 1 0 = true) (o4 : okAB [a, b] [] 1 1 = false) (ha : a.fs.length = 1) (hb : b.fs.length = 1) : ki [a, b] [] 2 = kq b a 0 1 := by
  rw [ki_two _ _ rfl, kab_no o1, kab_no o2, kab_no o4, kab_yes (a := b) (b := a) rfl rfl o3, hb, kp_one _ _ ha]
  simp only [List.nil_append, List.append_nil]
theorem ex22_ki (x : Int) (fa va fb vb : Option Addr) : ki [cirB 7 0 fa va, cirB 2 x fb vb] [] 2 = kq (cirB 2 x fb vb) (cirB 7 0 fa va) 0 1 := by
  obtain ⟨o1, o2, o3, o4⟩ := ex22_o x fa va fb vb
  exact ki_pair _ _ o1 o2 o3 o4 (cir_len _ _ _ _) (cir_len _ _ _ _)
theorem ex22_fp (x : Int) (fa va fb vb : Option Addr) (H : Bool) (hx : Bx.ovl (Bx.exp ((Bx.one (add 0 x, add 0 0)).mar 65536) 1024) (Bx.exp ((Bx.one (add 0 0, add 0 0)).mar 65536) 1024) = H) : fpL [cirB 7 0 fa va, cirB 2 x fb vb] [] = if H then [⟨2, 0, 7, 0⟩] else [] := by
  have e : fpL [cirB 7 0 fa va, cirB 2 x fb vb] [] = srK (ki [cirB 7 0 fa va, cirB 2 x fb vb] [] 2) := rfl
  have e0 : kq (cirB 2 x fb vb) (cirB 7 0 fa va) 0 0 = [] := rfl
  have e1 : kyOf (cirB 2 x fb vb) (cirB 7 0 fa va) 0 0 = ⟨2, 0, 7, 0⟩ := rfl
  rw [e, ex22_ki, kq_succ, ex22_hit x fa va fb vb H hx, e0, e1]
  cases H <;> rfl
theorem ex22_vk : vkP [(⟨2, 0, 7, 0⟩ : Ky)] := ⟨fun x hx => by simp at hx; subst hx; unfold okK; decide, fun i h => by simp at h⟩

end Go.Proofs.YtaahgblkmajceaaGreat

set_option linter.unusedVariables false
set_option linter.unusedSimpArgs false
namespace Go.Proofs.YtaahgblkmajceaaGreat
open Go.RowKit Fx Go.Maps

theorem cir_bdQ {w : World} {fb vb : Nat} {id x : Int} (hi : i64k id) (k1 : blk w fb (fxc (cirF (some ⟨vb, 0, none⟩))).toArray 57) (k2 : blk w vb #[.int .i64 0, .int .i64 0] 32) : bdQ w (bdc (cirB id x (some ⟨fb, 0, none⟩) (some ⟨vb, 0, none⟩))) (cirB id x (some ⟨fb, 0, none⟩) (some ⟨vb, 0, none⟩)) := by
  refine ⟨rfl, hi, ?_, fun h => (by cases h), show 1 ≤ 1 by decide, show 1 ≤ maxLen by unfold maxLen; decide⟩
  refine Or.inr ⟨fb, 0, rfl, fun i hi => ?_⟩
  obtain rfl : i = 0 := by have : i < 1 := hi; omega
  refine ⟨fxc (cirF (some ⟨vb, 0, none⟩)), rfl, fun j hj => ?_, rfl, ?_, fun h => (by cases h), show 1 ≤ 1 by decide, show 1 ≤ maxLen by unfold maxLen; decide⟩
  · rw [show 0 + 0 * 10 + j = j by omega, blk_cell k1]; simp
  · exact pts_of_list (ps := [(0, 0)]) k2

set_option maxRecDepth 100000 in
set_option maxHeartbeats 8000000 in
theorem circ_b (id x : Int) (w : World) : Calls Tryz.prog 26 #[.int .i64 id, .int .i64 x] w fun e w' => (∃ fb vb : Nat, e = .returned (.agg (bdc (cirB id x (some ⟨fb, 0, none⟩) (some ⟨vb, 0, none⟩))).toArray) ∧ blk w' fb (fxc (cirF (some ⟨vb, 0, none⟩))).toArray 57 ∧ blk w' vb #[.int .i64 0, .int .i64 0] 32) ∧ Below w.heap.size w w' := by
  go_enter Tryz.func26, Tryz.ntmps26
  go_upto_region 2 with fail
  refine wp_named ?_
  intro W hW
  have kR : blk W w.heap.size #[.int .i64 0, .int .i64 0, .int .i64 0, .int .i64 0, .int .i64 0, .int .i64 0, .int .i64 0, .int .i64 0, .int .i64 0, .int .i64 0, .int .i64 0, .int .i64 0, .int .i64 0, .int .i64 0, .bool false, .bool false, .bool false, .bool false, .int .i64 0, .slice none 0 0] 37 := by rw [hW]; exact bBkn
  have kV : blk W (w.heap.size + 1) #[.int .i64 0, .int .i64 0] 32 := by rw [hW]; exact bBkn
  have kS : blk W (w.heap.size + 1 + 1) #[.int .i64 1, .int .i64 65536, .slice (some ⟨w.heap.size + 1, 0, none⟩) 1 1] 55 := by rw [hW]; exact bBkn
  have hbW : Below w.heap.size w W := by rw [hW]; exact bBel
  clear hW
  have hszW := hbW.size
  have hltS := blk_lt kS
  have okS := blk_older kS
  have ckS_0 : _ = some _ := blk_cell kS 0
  have ckS_1 : _ = some _ := blk_cell kS 1
  have ckS_2 : _ = some _ := blk_cell kS 2
  have fkS_0 := blk_free kS 0
  have fkS_1 := blk_free kS 1
  have fkS_2 := blk_free kS 2
  go_wp2_with (refine wpList_store_wide rfl 37 _ _ rfl w.heap.size [.int .i64 id, .int .i64 3, .int .i64 x, .int .i64 0, .int .i64 0, .int .i64 0, .int .i64 0, .int .i64 0, .int .i64 0, .int .i64 0, .int .i64 0, .int .i64 0, .int .i64 0, .int .i64 0, .bool false, .bool false, .bool false, .bool false, .int .i64 0, .slice (some ⟨W.heap.size, 0, none⟩) 1 1] rfl rfl _ _ (by apply blk_alloc; exact kR) (by kernel_rfl) (by kernel_rfl) (by kernel_rfl) ?_; intro U kU hbU koU hzU)
  have hbWU : Below w.heap.size w U := hbU _ _ (Nat.le_refl _) bBel
  have kF : blk U W.heap.size (fxc (cirF (some ⟨w.heap.size + 1, 0, none⟩))).toArray 57 := koU _ _ _ (by omega) (by exact blk_new _ _ _)
  have kVU := koU (w.heap.size + 1) _ _ (by omega) (by apply blk_alloc; exact kV)
  have hrg : U.rangeAt w.heap.size 0 (bdc (cirB id x (some ⟨W.heap.size, 0, none⟩) (some ⟨w.heap.size + 1, 0, none⟩))) := rng_blk22 kU
  have hload := run_loadVar_mid (P := Tryz.prog) U w.heap.size 0 37 _ _ hrg Tryz.underlying37 rfl (by rw [bdc_len]; kernel_rfl)
  clear hbU koU hzU kU
  refine bodyPost_ret (v := .agg (bdc (cirB id x (some ⟨W.heap.size, 0, none⟩) (some ⟨w.heap.size + 1, 0, none⟩))).toArray) ?_ rfl ⟨⟨_, _, rfl, kF, kVU⟩, hbWU⟩
  generalize (bdc (cirB id x (some ⟨W.heap.size, 0, none⟩) (some ⟨w.heap.size + 1, 0, none⟩))).toArray = bv at *
  clear kF kVU hrg kR kV kS
  simp [results, Tryz.results26, Act.put, asAddr, hload, Result.andThen]

theorem bods_blk {w : World} {g : Nat} {l : List Bdy} {t : TypeId} (h : blk w g (bvv l).toArray t) (hq : ∀ f ∈ l, bdQ w (bdc f) f) : Bods w (some ⟨g, 0, none⟩) l :=
  Or.inr ⟨g, 0, rfl, fun i hi => ⟨bdc l[i], rfl, fun j hj => by rw [Nat.zero_add, blk_cell h]; simp only [List.getElem?_toArray]; exact flat_get (c := bdc) bdc_len l i hi j hj, hq _ (List.getElem_mem hi)⟩⟩
theorem kys_blk {w : World} {g : Nat} {l : List Ky} {t : TypeId} (h : blk w g (kv l).toArray t) : Kys w (some ⟨g, 0, none⟩) l :=
  Or.inr ⟨g, 0, rfl, fun i hi => ⟨kyc l[i], rfl, fun j hj => by rw [Nat.zero_add, blk_cell h]; simp only [List.getElem?_toArray]; exact flat_get (c := kyc) kyc_len l i hi j hj, rfl⟩⟩
theorem bods_two {w : World} {a b : Bdy} {g : Nat} {t : TypeId} (h : blk w g (bvv [a, b]).toArray t) (ha : bdQ w (bdc a) a) (hb : bdQ w (bdc b) b) : Bods w (some ⟨g, 0, none⟩) [a, b] := bods_blk h fun f hf => by
  simp only [List.mem_cons, List.not_mem_nil, or_false] at hf
  rcases hf with rfl | rfl
  · exact ha
  · exact hb

set_option maxRecDepth 100000 in
set_option maxHeartbeats 8000000 in
theorem exfp_b (x : Int) (f1 v1 f2 v2 : Nat) (H : Bool) (hx : Bx.ovl (Bx.exp ((Bx.one (add 0 x, add 0 0)).mar 65536) 1024) (Bx.exp ((Bx.one (add 0 0, add 0 0)).mar 65536) 1024) = H) (g : Nat) (w : World)
    (h : blk w g (bvv [cirB 7 0 (some ⟨f1, 0, none⟩) (some ⟨v1, 0, none⟩), cirB 2 x (some ⟨f2, 0, none⟩) (some ⟨v2, 0, none⟩)]).toArray 37)
    (k1 : blk w f1 (fxc (cirF (some ⟨v1, 0, none⟩))).toArray 57) (k2 : blk w v1 #[.int .i64 0, .int .i64 0] 32) (k3 : blk w f2 (fxc (cirF (some ⟨v2, 0, none⟩))).toArray 57) (k4 : blk w v2 #[.int .i64 0, .int .i64 0] 32) :
    Calls Tryz.prog 12 #[.slice (some ⟨g, 0, none⟩) 2 2, .slice none 0 0] w fun e w' => (∃ v, e = .returned v ∧ w'.ownsRow w.heap.size 60 4 v (if H then [(⟨2, 0, 7, 0⟩ : Ky)] else []).length (kv (if H then [⟨2, 0, 7, 0⟩] else []))) ∧ Below w.heap.size w w' := by
  have hq := fp_b (some ⟨g, 0, none⟩) none 2 0 [cirB 7 0 (some ⟨f1, 0, none⟩) (some ⟨v1, 0, none⟩), cirB 2 x (some ⟨f2, 0, none⟩) (some ⟨v2, 0, none⟩)] [] (by simp) (fun f hf => by
    simp only [List.mem_cons, List.not_mem_nil, or_false] at hf
    rcases hf with rfl | rfl
    · exact cir_okF _ _ _ _
    · exact cir_okF _ _ _ _) (by simp) w (bods_two h (cir_bdQ (by unfold i64k; omega) k1 k2) (cir_bdQ (by unfold i64k; omega) k3 k4)) (.inl rfl)
  rw [ex22_fp x _ _ _ _ H hx] at hq
  exact hq

end Go.Proofs.YtaahgblkmajceaaGreat

set_option linter.unusedVariables false
set_option linter.unusedSimpArgs false
namespace Go.Proofs.YtaahgblkmajceaaGreat
open Go.RowKit Fx Go.Maps

set_option maxRecDepth 100000 in
set_option maxHeartbeats 8000000 in
theorem bs_two (a b : Bdy) (w : World) : (Instr.buildSlice 22 2 #[(0, .agg (bdc a).toArray), (1, .agg (bdc b).toArray)]).run Tryz.prog w = .ok (.slice (some ⟨w.heap.size, 0, none⟩) 2 2) (w.alloc (.cells (bvv [a, b]).toArray 37)) := by
  obtain ⟨i0, hi, hz0, hz1, hz2⟩ := info_parts info_bdy
  refine run_buildSlice w 22 37 2 _ _ i0 _ Tryz.underlying22 hi hz0 (by rw [hz1]; decide) (by rw [hz1]; decide) ?_
  rw [hz1]
  obtain ⟨ia, ka, pxa, pya, paa, vxa, vya, ava, fxa, fya, tqa, lda, ada, gsa, bula, fixa, nosa, asla, idla, Aa, capa, fsa⟩ := a
  obtain ⟨ib, kb, pxb, pyb, pab, vxb, vyb, avb, fxb, fyb, tqb, ldb, adb, gsb, bulb, fixb, nosb, aslb, idlb, Ab, capb, fsb⟩ := b
  kernel_rfl

theorem wpList_bs2 {ops : Array Oper} {rest : List Oper} {o : Oper} {act : Act} {w : World} {Q : Exit → Act → World → Prop} (hg : o.guard = none) (x y : Operand) (ho : o.op = .buildSlice 22 2 #[(0, x), (1, y)]) (a b : Bdy) (hx : act.eval x = .agg (bdc a).toArray) (hy : act.eval y = .agg (bdc b).toArray)
    (h : wpList Tryz.prog ops Q rest (act.put o.dst (.slice (some ⟨w.heap.size, 0, none⟩) 2 2)) (w.alloc (.cells (bvv [a, b]).toArray 37))) : wpList Tryz.prog ops Q (o :: rest) act w := by
  refine wpList_plain hg fun K hK => ?_
  have e : ((#[(0, x), (1, y)] : Array (Nat × Operand)).map fun (i, x) => (i, act.eval x)) = #[(0, .agg (bdc a).toArray), (1, .agg (bdc b).toArray)] := by
    simp [hx, hy]
  unfold Oper.wp execOp
  simp only [ho, e, Sem.run_bind, bs_two, Result.andThen_ok]
  exact hK _ _ h

set_option maxRecDepth 100000 in
set_option maxHeartbeats 8000000 in
theorem example22_b (w : World) : Calls Tryz.prog 10 #[] w fun e w' => e = .returned (.bool true) ∧ Below w.heap.size w w' := by
  go_enter Tryz.func10, Tryz.ntmps10
  go_upto_region 2 with (first | (go_at_call 26; with_reducible_and_instances refine Calls.mono (circ_b 7 0 _) ?_; rintro e W1 ⟨⟨f1, v1, rfl, k1, k2⟩, hb1⟩) | (go_at_call 26; with_reducible_and_instances refine Calls.mono (circ_b 2 133119 _) ?_; rintro e W2 ⟨⟨f2, v2, rfl, k3, k4⟩, hb2⟩) | (refine wpList_bs2 rfl _ _ rfl _ _ rfl rfl ?_) | (go_at_call 12; with_reducible_and_instances refine Calls.mono (exfp_b 133119 f1 v1 f2 v2 true ex22_near _ _ (blk_new _ _ _) (blk_alloc (blk_below hb2 k1)) (blk_alloc (blk_below hb2 k2)) (blk_alloc k3) (blk_alloc k4)) ?_; rintro e W3 ⟨⟨v, rfl, hown⟩, hb3⟩))
  have hbw1 : Below w.heap.size w W2 := Below.trans hb1 (hb2.mono hb1.size)
  have hszw2 := hbw1.size
  have hbw3 : Below w.heap.size w W3 := Below.trans (hbw1.alloc hszw2 _) (hb3.mono (by simp; omega))
  have hownN : W3.ownsRow W2.heap.size 60 4 v 1 (kv [(⟨2, 0, 7, 0⟩ : Ky)]) := owns_base hown (by simp)
  obtain ⟨A, cap, rfl, -, hcap, hmx, hK⟩ := owns_kys hownN
  clear hown hownN hb1 hb2 hb3 hbw1 k1 k2 k3 k4 hszw2
  have hszw3 := hbw3.size
  go_upto_region 3 with (first | (go_at_call 26; with_reducible_and_instances refine Calls.mono (circ_b 7 0 _) ?_; rintro e V1 ⟨⟨f3, v3, rfl, k1, k2⟩, hb1⟩) | (go_at_call 26; with_reducible_and_instances refine Calls.mono (circ_b 2 133121 _) ?_; rintro e V2 ⟨⟨f4, v4, rfl, k3, k4⟩, hb2⟩) | (refine wpList_bs2 rfl _ _ rfl _ _ rfl rfl ?_) | (go_at_call 12; with_reducible_and_instances refine Calls.mono (exfp_b 133121 f3 v3 f4 v4 false ex22_far _ _ (blk_new _ _ _) (blk_alloc (blk_below hb2 k1)) (blk_alloc (blk_below hb2 k2)) (blk_alloc k3) (blk_alloc k4)) ?_; rintro e V3 ⟨⟨vf, rfl, hown⟩, hb3⟩))
  have hszV1 := hb1.size
  have hbw1 : Below W3.heap.size W3 V2 := Below.trans hb1 (hb2.mono hb1.size)
  have hszw2 := hbw1.size
  have hbV : Below W3.heap.size W3 V3 := Below.trans (hbw1.alloc hszw2 _) (hb3.mono (by simp; omega))
  have hbwV : Below w.heap.size w V3 := Below.trans hbw3 (hbV.mono hszw3)
  have hlen : ∀ ty W', (Builtin.len_ #[27] ty #[vf]).run Tryz.prog W' = .ok (.int .i64 (0 : Int)) W' := fun ty W' => row_len u_keys hown ty W'
  have hKV : Kys V3 A [(⟨2, 0, 7, 0⟩ : Ky)] := Kys.to hK hbV
  have hszV := hbwV.size
  clear hown hb1 hb2 hb3 hbw1 k1 k2 k3 k4 hszw2 hbw3 hbV hK hszV1 hszw3
  have cK : ∀ N w', Kys w' A [(⟨2, 0, 7, 0⟩ : Ky)] → blk w' N #[.int .i64 2, .int .i64 0, .int .i64 7, .int .i64 0] 60 → Calls Tryz.prog 11 #[.slice A 1 cap, .slice (some ⟨N, 0, none⟩) 1 1] w' fun e w'' => e = .returned (.bool true) ∧ Below w'.heap.size w' w'' := fun N w' h1 h2 => rkeys_b A (some ⟨N, 0, none⟩) cap 1 [⟨2, 0, 7, 0⟩] [⟨2, 0, 7, 0⟩] w' h1 (kys_blk (l := [⟨2, 0, 7, 0⟩]) h2) true (by simp) (by simp)
  have cV : ∀ w', Kys w' A [(⟨2, 0, 7, 0⟩ : Ky)] → Calls Tryz.prog 24 #[.slice A 1 cap] w' fun e w'' => e = .returned (.bool true) ∧ Below w'.heap.size w' w'' := fun w' h1 => vk_b A cap [⟨2, 0, 7, 0⟩] (by simp) w' h1 true (by simp; exact ex22_vk)
  have cL : ∀ w', Calls Tryz.prog 22 #[.agg #[.int .i64 1, .int .i64 0, .int .i64 9, .int .i64 0], .agg #[.int .i64 2, .int .i64 0, .int .i64 0, .int .i64 0]] w' fun e w'' => e = .returned (.bool true) ∧ Below w'.heap.size w' w'' := fun w' => boolIs (less_b 1 0 9 0 2 0 0 0 w') (by decide)
  go_wp2_with (first | (go_at_call 11; with_reducible_and_instances refine Calls.mono (gw_at (cK _ _ (Kys.to hKV bBel) bBkn)) ?_; rintro e w1 ⟨rfl, q1, rfl⟩) | (go_at_call 24; with_reducible_and_instances refine Calls.mono (gw_at (cV _ (Kys.to hKV bBel))) ?_; rintro e w1 ⟨rfl, q2, rfl⟩) | (go_at_call 22; with_reducible_and_instances refine Calls.mono (gw_at (cL _)) ?_; rintro e w1 ⟨rfl, q3, rfl⟩))
  go_ret
  exact ⟨rfl, bBel⟩

end Go.Proofs.YtaahgblkmajceaaGreat
