/- Chapter 23: the example. -/
import Derived.Test.YtdmcdicphohlfaaGreatBkP
import Derived.Test.YtdmcdicphohlfaaGreatBkM
import Derived.Test.YtdmcdicphohlfaaGreatBkI
set_option linter.unusedVariables false
set_option linter.unusedSimpArgs false
namespace Go.Proofs.YtdmcdicphohlfaaGreat
open Go.RowKit Fx Go.Maps

def dkF (v : Option Addr) : Fxr := ⟨1, 65536, v, 1, [(0, 0)], 65536, 0, 0, false, 1, 1, 0⟩
def dkB (x : Int) (fa v : Option Addr) : Bdy := ⟨1, 3, x, 0, 0, 0, 0, 0, 0, 0, 0, 0, 0, 65536, false, false, false, false, 0, fa, 1, [dkF v]⟩
def zeB : Bdy := ⟨0, 0, 0, 0, 0, 0, 0, 0, 0, 0, 0, 0, 0, 0, false, false, false, false, 0, none, 0, []⟩
theorem dk_val : bdV (dkB 5 none none) = 0 := by decide +kernel
theorem dk_ofF : (ofF [dkF none]).m = 205888 ∧ (ofF [dkF none]).x = 0 ∧ (ofF [dkF none]).y = 0 := by decide +kernel
theorem dk_wc : wcx (dkB 5 none none) = 5 ∧ wcy (dkB 5 none none) = 0 := by
  have e1 : wcx (dkB 5 none none) = tpx 5 0 (ofF [dkF none]).x (ofF [dkF none]).y := rfl
  have e2 : wcy (dkB 5 none none) = tpy 0 0 (ofF [dkF none]).x (ofF [dkF none]).y := rfl
  rw [e1, e2, tpx_none, tpy_none, dk_ofF.2.1, dk_ofF.2.2]
  decide
theorem dk_ivm : ivm (dkB 5 none none) = invM 205888 3 := by
  have e : ivm (dkB 5 none none) = invM (ofF [dkF none]).m 3 := rfl
  rw [e, dk_ofF.1]
theorem dk_imp : 65527 < (imB (dkB 5 none none) 5 0 205888 0).vx ∧ (imB (dkB 5 none none) 5 0 205888 0).vx < 65545 ∧ (imB (dkB 5 none none) 5 0 205888 0).vy = 0 ∧ (imB (dkB 5 none none) 5 0 205888 0).av = 0 := by
  have hc : cross (sub 5 (wcx (dkB 5 none none))) (sub 0 (wcy (dkB 5 none none))) 205888 0 = 0 := by rw [dk_wc.1, dk_wc.2]; decide +kernel
  have e : imB (dkB 5 none none) 5 0 205888 0 = psB (dkB 5 none none) 205888 0 0 := by unfold imB; rw [hc]
  have e2 : psB (dkB 5 none none) 205888 0 0 = { dkB 5 none none with vx := cl24 (add 0 (mul 205888 (ivm (dkB 5 none none)))), vy := cl24 (add 0 (mul 0 (ivm (dkB 5 none none)))), av := cl22 (add 0 (mul 0 (ivi (dkB 5 none none)))), asl := false, idl := 0 } := if_pos rfl
  have z : ∀ m, mul 0 m = 0 := fun m => by unfold mul; simp [sat, rdiv, rok, rcore, rpos]
  rw [e, e2]
  dsimp only
  rw [dk_ivm, z, z]
  decide +kernel
theorem dk_bnd : bxs23 (dkB 5 none none) 1 = ⟨-65531, -65536, 65541, 65536⟩ := by
  have hv : valS 1 65536 [(0, 0)] = 0 := by decide
  have e : bxs23 (dkB 5 none none) 1 = if valS 1 65536 [(0, 0)] = 0 then (Bx.pts ([(0, 0)].map (tr 5 0 0))).mar 65536 else Bx.zero := rfl
  rw [e, if_pos hv]
  show (Bx.one (tpx 5 0 0 0, tpy 0 0 0 0)).mar 65536 = _
  rw [tpx_none, tpy_none]
  decide
theorem dk_at : fxat (dkB 5 none none) 5 0 = 0 := by
  rcases fxat_cases (dkB 5 none none) 5 0 with ⟨h1, h2⟩ | ⟨i, hi, h1, _⟩
  · have h3 := h2 (dkF none) (List.mem_singleton.2 rfl)
    have hv : valS 1 65536 [(0, 0)] = 0 := by decide
    have e : fat (dkB 5 none none) 5 0 (dkF none) = (decide (valS 1 65536 [(0, 0)] = 0) && conC 1 65536 ([(0, 0)].map (tr 5 0 0)) 5 0) := rfl
    rw [e, hv] at h3
    have e2 : conC 1 65536 ([(0, 0)].map (tr 5 0 0)) 5 0 = conC 1 65536 [(tpx 5 0 0 0, tpy 0 0 0 0)] 5 0 := rfl
    rw [e2, tpx_none, tpy_none] at h3
    revert h3
    decide +kernel
  · have : i = 0 := by have h : i < 1 := hi; omega
    rw [h1, this]; rfl
theorem ze_val : bdV zeB = 10 := by decide +kernel
theorem fx0_idem (l : List Fxr) : (l.map fx0).map fx0 = l.map fx0 := by rw [List.map_map]; rfl
theorem ofF_0 (b : Bdy) : ofF (bd0 b).fs = ofF b.fs := fx0_ofF (fx0_idem b.fs)
theorem wcx_0 (b : Bdy) : wcx (bd0 b) = wcx b := by unfold wcx; rw [ofF_0]; rfl
theorem wcy_0 (b : Bdy) : wcy (bd0 b) = wcy b := by unfold wcy; rw [ofF_0]; rfl
theorem wcx_eq {a b : Bdy} (h : bd0 a = bd0 b) : wcx a = wcx b := by rw [← wcx_0 a, ← wcx_0 b, h]
theorem wcy_eq {a b : Bdy} (h : bd0 a = bd0 b) : wcy a = wcy b := by rw [← wcy_0 a, ← wcy_0 b, h]
theorem ivm_0 (b : Bdy) : ivm (bd0 b) = ivm b := by unfold ivm; rw [ofF_0]; rfl
theorem ivi_0 (b : Bdy) : ivi (bd0 b) = ivi b := by unfold ivi; rw [ofF_0]; rfl
theorem psB_0 (b : Bdy) (x y a : Int) : bd0 (psB b x y a) = psB (bd0 b) x y a := by
  unfold psB
  rw [ivm_0, ivi_0]
  by_cases hk : b.k = 3
  · rw [if_pos hk, if_pos (show (bd0 b).k = 3 from hk)]; rfl
  · rw [if_neg hk, if_neg (show ¬ (bd0 b).k = 3 from hk)]
theorem psB_eq {a b : Bdy} (h : bd0 a = bd0 b) (x y c : Int) : bd0 (psB a x y c) = bd0 (psB b x y c) := by rw [psB_0, psB_0, h]
theorem imB_eq {a b : Bdy} (h : bd0 a = bd0 b) (p q x y : Int) : bd0 (imB a p q x y) = bd0 (imB b p q x y) := by
  unfold imB; rw [wcx_eq h, wcy_eq h]; exact psB_eq h _ _ _
theorem fbd_eq {a b : Bdy} (h : bd0 a = bd0 b) (f : Fxr) : fbd a f = fbd b f := by
  have e1 : a.px = b.px := (by show (bd0 a).px = (bd0 b).px; rw [h])
  have e2 : a.py = b.py := (by show (bd0 a).py = (bd0 b).py; rw [h])
  have e3 : a.pa = b.pa := (by show (bd0 a).pa = (bd0 b).pa; rw [h])
  unfold fbd; rw [e1, e2, e3]
theorem fbd_0 (b : Bdy) (f : Fxr) : fbd b (fx0 f) = fbd b f := rfl
theorem bxs23_0 (b : Bdy) (k : Nat) : bxs23 (bd0 b) k = bxs23 b k := by
  have e : ∀ l : List Fxr, (l.map fx0).map (fbd (bd0 b)) = l.map (fbd b) := fun l => by rw [List.map_map]; rfl
  unfold bxs23
  show ((((b.fs.map fx0).take k).tail.map (fbd (bd0 b))).foldl Bx.uni (match b.fs.map fx0 with | [] => Bx.zero | f :: _ => fbd (bd0 b) f)) = _
  rw [← List.map_take, ← List.map_tail, e]
  cases b.fs <;> rfl
theorem bxs23_eq {a b : Bdy} (h : bd0 a = bd0 b) : bxs23 a a.fs.length = bxs23 b b.fs.length := by
  rw [← bxs23_0 a, ← bxs23_0 b, h, map_len (bd0_fs h)]
theorem fxat_0 (b : Bdy) (x y : Int) : fxat (bd0 b) x y = fxat b x y := by
  unfold fxat
  show (match (b.fs.map fx0).findIdx? (fat (bd0 b) x y) with | some i => (i : Int) | none => -1) = _
  rw [List.findIdx?_map]
  rfl
theorem fxat_eq {a b : Bdy} (h : bd0 a = bd0 b) (x y : Int) : fxat a x y = fxat b x y := by rw [← fxat_0 a, ← fxat_0 b, h]
theorem dk_okL : okL (dkB 5 none none) := ⟨by decide, fun f hf => by
  have : f = dkF none := by simpa [dkB] using hf
  subst this; decide⟩
theorem dk_in {w : World} {fb vb : Nat} (k1 : blk w fb (fxc (dkF (some ⟨vb, 0, none⟩))).toArray 35) (k2 : blk w vb #[.int .i64 0, .int .i64 0] 24) : BdIn w (dkB 5 (some ⟨fb, 0, none⟩) (some ⟨vb, 0, none⟩)) := by
  refine ⟨?_, fun h => (by cases h), show 1 ≤ 1 by decide, show 1 ≤ maxLen by unfold maxLen; decide⟩
  refine Or.inr ⟨fb, 0, rfl, fun i hi => ?_⟩
  obtain rfl : i = 0 := by have : i < 1 := hi; omega
  refine ⟨fxc (dkF (some ⟨vb, 0, none⟩)), rfl, fun j hj => ?_, rfl, ?_, fun h => (by cases h), show 1 ≤ 1 by decide, show 1 ≤ maxLen by unfold maxLen; decide⟩
  · rw [show 0 + 0 * 10 + j = j by omega, blk_cell k1]; simp
  · exact pts_of_list (ps := [(0, 0)]) k2

set_option maxRecDepth 100000 in
set_option maxHeartbeats 16000000 in
theorem disk_b (w : World) : Calls Tryz.prog 50 #[.int .i64 5] w fun e w' => (∃ b : Bdy, e = .returned (.agg (bdc b).toArray) ∧ Hid (bd0 b = bd0 (dkB 5 none none)) ∧ BdIn w' b) ∧ Below w.heap.size w w' := by
  go_enter Tryz.func50, Tryz.ntmps50
  go_upto_region 1 with fail
  refine wp_named ?_
  intro W hW
  have kR : blk W w.heap.size #[.int .i64 0, .int .i64 0, .int .i64 0, .int .i64 0, .int .i64 0, .int .i64 0, .int .i64 0, .int .i64 0, .int .i64 0, .int .i64 0, .int .i64 0, .int .i64 0, .int .i64 0, .int .i64 0, .bool false, .bool false, .bool false, .bool false, .int .i64 0, .slice none 0 0] 29 := by rw [hW]; exact blk_new _ _ _
  have hbW : Below w.heap.size w W := by rw [hW]; exact bBel
  clear hW
  have hszW := hbW.size
  have hlR := blk_lt kR
  go_wp2_with (first | (refine wpList_bsF rfl _ rfl (dkF (some ⟨W.heap.size, 0, none⟩)) rfl ?_) | (refine wpList_store_wide rfl 29 _ _ rfl w.heap.size (bdc (dkB 5 (some ⟨W.heap.size + 1, 0, none⟩) (some ⟨W.heap.size, 0, none⟩))) rfl rfl _ _ (by apply blk_alloc; apply blk_alloc; exact kR) (by kernel_rfl) (bd_sizeC _) (bd_all _) ?_; intro U kU hbU koU hzU))
  have hbWU : Below w.heap.size w U := hbU _ _ (Nat.le_refl _) bBel
  have kF : blk U (W.heap.size + 1) (fxc (dkF (some ⟨W.heap.size, 0, none⟩))).toArray 35 := koU _ _ _ (by omega) (blk_at (by simp))
  have kV : blk U W.heap.size #[.int .i64 0, .int .i64 0] 24 := koU _ _ _ (by omega) (by apply blk_alloc; exact blk_new _ _ _)
  exact bodyPost_ret (v := .agg (bdc (dkB 5 (some ⟨W.heap.size + 1, 0, none⟩) (some ⟨W.heap.size, 0, none⟩))).toArray) (res_wide Tryz.results50 rfl _ (rng_blk23 kU) Tryz.underlying29 rfl (bd_sizeC _)) rfl ⟨⟨_, rfl, rfl, dk_in kF kV⟩, hbWU⟩


end Go.Proofs.YtdmcdicphohlfaaGreat
