/- Chapter 23: slices.IndexFunc and slices.ContainsFunc at fixtures, Validate. -/
import Derived.Test.YtdmcdicphohlfaaGreatBkF
import Derived.Shelf.SlicesQ.IndexFunc
import Derived.Shelf.SlGeneric
set_option linter.unusedVariables false
set_option linter.unusedSimpArgs false
namespace Go.Proofs.YtdmcdicphohlfaaGreat
open Go.RowKit Fx Go.Maps

def fxRen : Go.Shelf.Ren := ⟨fun
  | 6 => 80
  | 8 => 54
  | n => n, fun
  | 0 => 0
  | 3 => 3
  | 4 => 4
  | 22 => 27
  | 23 => 35
  | 25 => 91
  | n => n, fun n => n⟩
theorem fx_lays : SlLaysH0.n8 Tryz.prog fxRen := {
  mixed := by kernel_rfl
  f6 := ⟨"slices.IndexFunc[[]carom/api.Fixture,carom/api.Fixture]", by decide, by kernel_rfl⟩
  f8 := ⟨"slices.ContainsFunc[[]carom/api.Fixture,carom/api.Fixture]", by decide, by kernel_rfl⟩
  t0 := by kernel_rfl
  a0 := fun _ => by kernel_rfl
  z0 := fun _ => by kernel_rfl
  v0 := fun _ => by kernel_rfl
  t3 := by kernel_rfl
  a3 := fun _ => by kernel_rfl
  z3 := fun _ => by kernel_rfl
  v3 := fun _ => by kernel_rfl
  t4 := by kernel_rfl
  a4 := fun _ => by kernel_rfl
  z4 := fun _ => by kernel_rfl
  v4 := fun _ => by kernel_rfl
  t22 := by kernel_rfl
  a22 := fun _ => by kernel_rfl
  z22 := fun _ => by kernel_rfl
  v22 := fun _ => by kernel_rfl
  t25 := by kernel_rfl
  a25 := fun _ => by kernel_rfl
  z25 := fun _ => by kernel_rfl
  v25 := fun _ => by kernel_rfl }


theorem xif23_b (A : Option Addr) (cap : Nat) (f : Value) (w : World) : Calls Tryz.prog 80 #[.slice A 0 cap, f] w fun e w' => e = .returned (.int .i64 (-1)) ∧ Below w.heap.size w w' := by
  go_enter Tryz.func80, Tryz.ntmps80
  go_wp2_with fail
  go_loopw [8] (fun i wr => i = .int .i64 0 ∧ wr = w)
    (fun _ _ => 0)
  case atStart => exact ⟨rfl, rfl⟩
  case round =>
    obtain ⟨rfl, rfl⟩ := hrel
    go_wp2_with fail
    go_ret
    exact ⟨rfl, Below.refl _ _⟩

theorem fx_cellq {w : World} {A : Option Addr} {fs : List Fxr} (h : Fxs w A fs) (h0 : 0 < fs.length) : ∃ b off, A = some ⟨b, off, none⟩ ∧ b < w.heap.size ∧ ∀ j (hj : j < fs.length) i v, (fxc fs[j])[i]? = some v → w.cell? ⟨b, off + j * 10 + i, none⟩ = some v := by
  obtain ⟨b, off, hA, _, hr⟩ := fxs_at23 h h0
  refine ⟨b, off, hA, older_iff.1 (hr w (Below.refl _ _)).1, fun j hj i v hv => ?_⟩
  obtain ⟨b2, off2, hA2, _, hr2⟩ := fxs_at23 h hj
  rw [hA] at hA2; cases hA2
  exact (hr2 w (Below.refl _ _)).2 i v hv

theorem xcf23_b (A : Option Addr) (cap : Nat) (fs : List Fxr) (p : Fxr → Bool) (g : Nat) (lb : Array Value) (hl : fs.length ≤ 4611686018427387904) (eg : ∀ args w, (callFunc g args).run Tryz.prog w = .ok (.enter g args) w) (w : World) (hp : ∀ W, Below w.heap.size w W → ∀ f ∈ fs, Calls Tryz.prog g (#[.agg (fxc f).toArray] ++ lb) W fun e w' => e = .returned (.bool (p f)) ∧ Below W.heap.size W w') (ha : Fxs w A fs) : Calls Tryz.prog 54 #[.slice A fs.length cap, .func (.func g) #[] lb] w fun e w' => e = .returned (.bool (fs.any p)) ∧ Below w.heap.size w w' := by
  by_cases h0 : fs.length = 0
  · obtain rfl : fs = [] := List.length_eq_zero_iff.1 h0
    go_enter Tryz.func54, Tryz.ntmps54
    go_wp2_with (go_at_call 80; refine Calls.mono (gw_at (xif23_b _ _ _ _)) ?_; rintro e w1 ⟨rfl, q, rfl⟩)
    go_ret
    exact ⟨rfl, bBel⟩
  · obtain ⟨b, off, rfl, hb, hc⟩ := fx_cellq ha (by omega)
    have hI : Inhabited {f // f ∈ fs} := ⟨⟨fs[0], List.getElem_mem (by omega)⟩⟩
    have L := AnyQ.slices_ContainsFunc fx_lays 10 (fun _ => by kernel_rfl) (fun _ => by kernel_rfl) (fun x : {f // f ∈ fs} => fxc x.1) (fun _ => rfl) (fun x => p x.1) g lb eg b off fs.length cap fs.attach w
      (fun W x hW => Calls.mono (hp W hW x.1 x.2) (fun e w' h => ⟨h.1, Below.trans hW (h.2.mono hW.size)⟩)) (by rw [List.length_attach]; exact Nat.le_refl _) (by omega) hb
      (fun j hj i v hv => by
        rw [List.length_attach] at hj
        rw [getElem!_pos fs.attach j (by rw [List.length_attach]; exact hj), List.getElem_attach] at hv
        exact hc j hj i v hv)
    have e : (fs.attach.take fs.length).any (fun x => p x.1) = fs.any p := by
      have h1 : fs.attach.take fs.length = fs.attach := List.take_of_length_le (by rw [List.length_attach]; exact Nat.le_refl _)
      rw [h1]
      conv => rhs; rw [← List.attach_map_subtype_val fs]
      rw [List.any_map]; rfl
    rw [e] at L
    exact L

theorem xif23n_b (A : Option Addr) (cap : Nat) (fs : List Fxr) (p : Fxr → Bool) (g : Nat) (lb : Array Value) (hl : fs.length ≤ 4611686018427387904) (eg : ∀ args w, (callFunc g args).run Tryz.prog w = .ok (.enter g args) w) (w : World) (hp : ∀ W, Below w.heap.size w W → ∀ f ∈ fs, Calls Tryz.prog g (#[.agg (fxc f).toArray] ++ lb) W fun e w' => e = .returned (.bool (p f)) ∧ Below W.heap.size W w') (ha : Fxs w A fs) : Calls Tryz.prog 80 #[.slice A fs.length cap, .func (.func g) #[] lb] w fun e w' => e = .returned (.int .i64 (match fs.findIdx? p with | some i => (i : Int) | none => -1)) ∧ Below w.heap.size w w' := by
  by_cases h0 : fs.length = 0
  · obtain rfl : fs = [] := List.length_eq_zero_iff.1 h0
    exact xif23_b A cap _ w
  · obtain ⟨b, off, rfl, hb, hc⟩ := fx_cellq ha (by omega)
    have hI : Inhabited {f // f ∈ fs} := ⟨⟨fs[0], List.getElem_mem (by omega)⟩⟩
    have L := AnyQ.slices_IndexFunc { fx_lays with } 10 (fun _ => by kernel_rfl) (fun _ => by kernel_rfl) (fun x : {f // f ∈ fs} => fxc x.1) (fun _ => rfl) (fun x => p x.1) g lb eg b off fs.length cap fs.attach w
      (fun W x hW => Calls.mono (hp W hW x.1 x.2) (fun e w' h => ⟨h.1, Below.trans hW (h.2.mono hW.size)⟩)) (by rw [List.length_attach]; exact Nat.le_refl _) (by omega) hb
      (fun j hj i v hv => by
        rw [List.length_attach] at hj
        rw [getElem!_pos fs.attach j (by rw [List.length_attach]; exact hj), List.getElem_attach] at hv
        exact hc j hj i v hv)
    have hg : ∀ j (hj : j < fs.length), (fs.attach[j]!).1 = fs[j] := fun j hj => by
      rw [getElem!_pos fs.attach j (by rw [List.length_attach]; exact hj), List.getElem_attach]
    have e : Lib.idxBy (fun _ (y : {f // f ∈ fs}) => p y.1) (fs.attach.take fs.length) default = (match fs.findIdx? p with | some i => (i : Int) | none => -1) := by
      cases h : fs.findIdx? p with
      | none =>
        rw [Lib.idxBy_miss (fun _ (y : {f // f ∈ fs}) => p y.1) fs.attach fs.length default (fun j hj => by
          show p (fs.attach[j]!).1 = false
          rw [hg j hj]; simpa using List.findIdx?_eq_none_iff.1 h _ (List.getElem_mem hj))]
      | some i =>
        obtain ⟨hi, h1, h2⟩ := List.findIdx?_eq_some_iff_getElem.1 h
        rw [Lib.idxBy_hit (fun _ (y : {f // f ∈ fs}) => p y.1) fs.attach fs.length i default hi (by rw [List.length_attach]; exact Nat.le_refl _) (by
          show p (fs.attach[i]!).1 = true
          rw [hg i hi]; exact h1) (fun j hj => by
          show p (fs.attach[j]!).1 = false
          rw [hg j (by omega)]; simpa using h2 j hj)]
    rw [e] at L
    exact L

set_option maxRecDepth 100000 in
set_option maxHeartbeats 16000000 in
theorem pval_b (b : Bdy) (w : World) (ho : okL b) (h : BdIn w b) : Calls Tryz.prog 13 #[.agg (bdc b).toArray] w fun e w' => e = .returned (.int .i64 (bdV b)) ∧ Below w.heap.size w w' := by
  have hF := h.1
  have hok : Hid (∀ f ∈ b.fs, f.ps.length ≤ 1000000) := ho.2
  have hll : b.fs.length ≤ 1000000 := ho.1
  clear ho h
  have cK := fun w' => pkn_b b.k w'
  have cM := fun w' => pmot_b b w'
  have cP := fun w' => ppar_b b w'
  have cS := fun w' => psuit_b b w'
  have cV := fun w' => pmov_b b w'
  have cC := fun (w' : World) (hF' : Fxs w' b.A b.fs) => xcf23_b b.A b.cap b.fs (fun f => fxV f != 0) 55 #[] (by omega) (enters_of Tryz.func55 (by kernel_rfl) rfl) w' (fun W hW f hf => by
    have hFW := Fxs.to hF' hW
    obtain ⟨i, hi, rfl⟩ := List.mem_iff_getElem.1 hf
    obtain ⟨_, _, _, hq, _⟩ := fxs_at23 hFW hi
    exact pinv_b _ W (hok.out _ (List.getElem_mem hi)) hq.2.2.2.1 hq.2.1) hF'
  clear hok
  obtain ⟨D, hD⟩ : ∃ D, bdV b = D := ⟨_, rfl⟩
  rw [hD]
  unfold bdV at hD
  generalize known b.k = K at *
  generalize motB b = M at *
  generalize parB b = P at *
  generalize suitB b = Sb at *
  generalize movB b = V1 at *
  generalize (b.fs.any fun f => fxV f != 0) = N at *
  obtain ⟨sa, hsa⟩ : ∃ sa, b.asl = sa := ⟨_, rfl⟩
  rw [hsa] at hD
  obtain ⟨L, hL⟩ : ∃ L, decide (4 < b.fs.length) = L := ⟨_, rfl⟩
  have hL2 : decide ((4 : Int) < (b.fs.length : Int)) = L := by rw [← hL]; congr 1; rw [eq_iff_iff]; omega
  have hLi : (4 : Int) < (b.fs.length : Int) ↔ L = true := by rw [← hL2]; simp
  have hLn : 4 < b.fs.length ↔ L = true := by rw [← hL]; simp
  simp only [hLn] at hD
  cases K
  case' true => cases M
  case' true.true => cases P
  case' true.true.true => cases L
  case' true.true.true.false => cases N
  case' true.true.true.false.false => cases Sb
  case' true.true.true.false.false.true => cases sa
  case' true.true.true.false.false.true.true => cases V1
  all_goals
    simp at hD
    subst hD
  all_goals
    try simp only [iff_true, Bool.false_eq_true, iff_false] at hLi hLn
  all_goals
    go_enter Tryz.func13, Tryz.ntmps13
    go_upto_region 1 with fail
    refine wp_named ?_
    intro V0 hV0
    have kb : blk V0 (w.heap.size) (bdc b).toArray 29 := by rw [hV0]; exact bBkn
    have hbV0 : Below w.heap.size w V0 := by rw [hV0]; exact bBel
    clear hV0
    have hszV0 := hbV0.size
    have ob := blk_older kb
    obtain ⟨cb0, cb1, cb2, cb3, cb4, cb5, cb6, cb7, cb8, cb9, cb10, cb11, cb12, cb13, cb14, cb15, cb16, cb17, cb18, cb19⟩ := bd_cells kb
    rw [hsa] at cb17
    have hQb : Hid (∀ w', Below V0.heap.size V0 w' → w'.rangeAt (w.heap.size) 0 (bdc b)) := fun w' h' => rng_blk23 (blk_below h' kb)
    go_wp2_with (first | (refine wpList_load_g (by rfl) 29 _ rfl (w.heap.size) 0 rfl _ _ (hQb.out _ bBel) Tryz.underlying29 rfl (bd_sizeC b) ?_) | (go_at_call 51; with_reducible_and_instances refine Calls.mono (gw_at (cK _)) ?_; rintro e w1 ⟨rfl, q, rfl⟩) | (go_at_call 52; with_reducible_and_instances refine Calls.mono (gw_at (cM _)) ?_; rintro e w1 ⟨rfl, q, rfl⟩) | (go_at_call 53; with_reducible_and_instances refine Calls.mono (gw_at (cP _)) ?_; rintro e w1 ⟨rfl, q, rfl⟩) | (go_at_call 56; with_reducible_and_instances refine Calls.mono (gw_at (cS _)) ?_; rintro e w1 ⟨rfl, q, rfl⟩) | (go_at_call 57; with_reducible_and_instances refine Calls.mono (gw_at (cV _)) ?_; rintro e w1 ⟨rfl, q, rfl⟩) | (go_at_call 54; with_reducible_and_instances refine Calls.mono (gw_at (cC _ (Fxs.to hF bBel))) ?_; rintro e w1 ⟨rfl, q, rfl⟩))
    go_ret
    exact ⟨rfl, bBel⟩


end Go.Proofs.YtdmcdicphohlfaaGreat
