import Derived.Test.YtiecpebckmihgaaGreatMnO
import Derived.Lib.BitFns
import Derived.WalkKit
import Derived.BigQuiet
import Derived.Deep.QuietTactic
import Derived.StillTail
import Derived.Below
import Derived.IntWalk
import Derived.Laws.NewBlocks
import Derived.ProofKit
import Derived.OpenShut
import Derived.Carry
import Derived.OwnWalk
import Derived.LoopTactic
import Derived.Laws.OwnMore
import Derived.Deep.SlicePairs
import Derived.Lib.SmallJoins
namespace Go.Proofs.YtiecpebckmihgaaGreat.Fx

end Go.Proofs.YtiecpebckmihgaaGreat.Fx

set_option linter.unusedVariables false
namespace Go.Proofs.YtiecpebckmihgaaGreat.Fx

end Go.Proofs.YtiecpebckmihgaaGreat.Fx

set_option linter.unusedVariables false
namespace Go.Proofs.YtiecpebckmihgaaGreat.Fx

end Go.Proofs.YtiecpebckmihgaaGreat.Fx

set_option linter.unusedVariables false
namespace Go.Proofs.YtiecpebckmihgaaGreat.Fx

end Go.Proofs.YtiecpebckmihgaaGreat.Fx

set_option linter.unusedVariables false
namespace Go.Proofs.YtiecpebckmihgaaGreat.Fx

end Go.Proofs.YtiecpebckmihgaaGreat.Fx

set_option linter.unusedVariables false
namespace Go.Proofs.YtiecpebckmihgaaGreat.Fx

end Go.Proofs.YtiecpebckmihgaaGreat.Fx

set_option linter.unusedVariables false
namespace Go.Proofs.YtiecpebckmihgaaGreat.Fx

def Bx.has (b : Bx) (x y : Int) : Bool := b.val && decide (b.x0 ≤ sat x) && decide (sat x ≤ b.x1) && decide (b.y0 ≤ sat y) && decide (sat y ≤ b.y1)
end Go.Proofs.YtiecpebckmihgaaGreat.Fx

set_option linter.unusedVariables false
namespace Go.Proofs.YtiecpebckmihgaaGreat

section
variable {P : Program} {md : Region.Mode}

end

open Go.RowKit
section
variable {P : Program}
end

end Go.Proofs.YtiecpebckmihgaaGreat

set_option linter.unusedVariables false
namespace Go.Proofs.YtiecpebckmihgaaGreat



end Go.Proofs.YtiecpebckmihgaaGreat

set_option linter.unusedVariables false
namespace Go.Proofs.YtiecpebckmihgaaGreat.Opn
open Go.ChangeShapes Go.WideShapes Go.ChangeAt Go.RowKit

def Fits (P : Program) (w : World) (B : Nat) : List TypeId → List Value → Prop
  | [], [] => True
  | u :: us, c :: cs => Cell.okWide P w .any B u c ∧ Fits P w B us cs
  | _, _ => False
theorem fits_cons {P : Program} {w : World} {B : Nat} {u : TypeId} {us : List TypeId} {cs : List Value} (h : Fits P w B (u :: us) cs) : ∃ c cs', cs = c :: cs' ∧ Cell.okWide P w .any B u c ∧ Fits P w B us cs' := by
  cases cs with
  | nil => exact h.elim
  | cons c cs' => exact ⟨c, cs', rfl, h.1, h.2⟩
theorem fits_nil {P : Program} {w : World} {B : Nat} {cs : List Value} (h : Fits P w B [] cs) : cs = [] := by
  cases cs with
  | nil => rfl
  | cons c cs' => exact h.elim
theorem fits_of {P : Program} {w : World} {B : Nat} : ∀ (ts : List TypeId) (cs : List Value), cs.length = ts.length → (∀ (i : Nat) (v : Value), cs[i]? = some v → ∃ u, ts[i]? = some u ∧ Cell.okWide P w .any B u v) → Fits P w B ts cs
  | [], [], _, _ => trivial
  | [], c :: cs, h, _ => by simp at h
  | u :: us, [], h, _ => by simp at h
  | u :: us, c :: cs, h, hi => by
    refine ⟨?_, fits_of us cs (by simpa using h) fun i v hv => ?_⟩
    · obtain ⟨u', hu, hc⟩ := hi 0 c rfl
      simp at hu; subst hu; exact hc
    · obtain ⟨u', hu, hc⟩ := hi (i + 1) v (by simpa using hv)
      exact ⟨u', by simpa using hu, hc⟩

theorem open_flat {P : Program} {w : World} {B : Nat} {t : TypeId} {v : Value} {ts : List TypeId} (hd : (match P.underlying t with | some (.struct _) | some (.array _ _) => true | _ => false) = true)
    (hct : P.cellTypes P.depth t = some ts) (hC : P.cellsOf t = ts.length) (h : Value.okWide P w .any B t v) : ∃ cs : List Value, v = .agg cs.toArray ∧ Fits P w B ts cs := by
  unfold Value.okWide at h
  split at h
  · obtain ⟨cs, rfl, hsz, ts', hts, _, hi⟩ := h
    rw [hct] at hts; simp at hts; subst hts
    refine ⟨cs.toList, by simp, fits_of _ _ (by simpa using hsz.trans hC) fun i v hv => ?_⟩
    obtain ⟨u, hu, hc⟩ := hi i v (by simpa using hv)
    have hlt : i < ts.length := by
      have := (List.getElem?_eq_some_iff.1 hv).1
      have e : cs.toList.length = ts.length := by simpa using hsz.trans hC
      omega
    rw [Nat.mod_eq_of_lt hlt] at hu
    exact ⟨u, hu, hc⟩
  · obtain ⟨cs, rfl, hsz, ts', hts, _, hi⟩ := h
    rw [hct] at hts; simp at hts; subst hts
    refine ⟨cs.toList, by simp, fits_of _ _ (by simpa using hsz.trans hC) fun i v hv => ?_⟩
    obtain ⟨u, hu, hc⟩ := hi i v (by simpa using hv)
    have hlt : i < ts.length := by
      have := (List.getElem?_eq_some_iff.1 hv).1
      have e : cs.toList.length = ts.length := by simpa using hsz.trans hC
      omega
    rw [Nat.mod_eq_of_lt hlt] at hu
    exact ⟨u, hu, hc⟩
  · rename_i h1 h2
    split at hd
    · rename_i fs e; exact absurd e (h1 fs)
    · rename_i n e' e; exact absurd e (h2 n e')
    · simp at hd

theorem cell_int {P : Program} {w : World} {B : Nat} {t : TypeId} {k : IntKind} {v : Value} (ht : P.underlying t = some (.int k)) (h : Cell.okWide P w .any B t v) : ∃ n, v = .int k n ∧ k.has n := by
  simp only [Cell.okWide, ht] at h
  cases v <;> simp_all [Cell.ok]
section
variable {H : Type} {enc : TypeId × Value → H} {P : Program}

theorem all_stay (hl : laidOutB P = true) {W W' : World} (hb : Below W.heap.size W W') : ∀ (ts : List TypeId) (vs : List Value) (ds : List (DataW H)) (p : List MemPlace), ts.all (fun t => P.readableRec t && decide (t < P.types.size)) = true →
    DataW.TrodAll enc P W 0 (fun _ => true) true ts vs ds p → (∀ x ∈ p, x.block < W.heap.size) → DataW.TrodAll enc P W' 0 (fun b => decide (b < W.heap.size)) true ts vs ds p
  | [], [], [], _, _, h, _ => h
  | t :: ts, v :: vs, d :: ds, _, hr, ⟨p, q, h, hs, rfl⟩, hlt => by
    simp only [List.all_cons, Bool.and_eq_true, decide_eq_true_eq] at hr
    exact ⟨p, q, Below.trod hl hr.1.1 hr.1.2 h hb fun x hx => hlt x (List.mem_append_left _ hx), all_stay hl hb ts vs ds q hr.2 hs fun x hx => hlt x (List.mem_append_right _ hx), rfl⟩
  | [], _ :: _, _, _, _, h, _ => h.elim
  | [], [], _ :: _, _, _, h, _ => h.elim
  | _ :: _, [], _, _, _, h, _ => h.elim
  | _ :: _, _ :: _, [], _, _, h, _ => h.elim

theorem law_post {f : Func} {s : ChangeSpec} {W W' : World} {args : Array Value} {ds gs : List (DataW H)} {before : List MemPlace} {tb : TypeId} (hl : laidOutB P = true)
    (hW : DataW.Whole enc P f.params.toList s.vars false W args.toList ds gs before) (hv : s.vars = []) (hfn : s.fn H (ds ++ gs) = { results := [.lit (.bool true)], args := ds })
    (hres : f.resultTypes = #[tb]) (ht : P.underlying tb = some .bool) (hok : f.params.toList.all (fun t => P.readableRec t && decide (t < P.types.size)) = true) (hb : Below W.heap.size W W') :
    s.post enc P f false true false false W args (.bool true) W' := by
  have hlt := hW.lt
  have hW' := hW
  obtain ⟨p, q, hA, hV, rfl, hz, hn⟩ := hW
  rw [hv] at hV
  obtain ⟨rfl, rfl⟩ := trodVars_none hV
  refine ⟨ds, [], _, [], p, [], hW', ?_, ?_, ?_, hb.frame _, fun h => by simp at h⟩
  · rw [hfn, hres]; exact trodAll_cons_mk (shut_bool ht _) trodAll_mk0
  · rw [hfn]; exact all_stay hl hb _ _ _ _ hok hA fun x hx => hlt x (by simpa using hx)
  · rw [hfn, hv]; exact rfl
end

end Go.Proofs.YtiecpebckmihgaaGreat.Opn

set_option linter.unusedVariables false
namespace Go.Proofs.YtiecpebckmihgaaGreat
open Go.RowKit

section
variable {P : Program}

end

end Go.Proofs.YtiecpebckmihgaaGreat

set_option linter.unusedVariables false
namespace Go.Proofs.YtiecpebckmihgaaGreat
open Go.RowKit

end Go.Proofs.YtiecpebckmihgaaGreat

set_option linter.unusedVariables false
namespace Go.Proofs.YtiecpebckmihgaaGreat
open Go.RowKit

section
variable {P : Program}

section
variable {ops : Array Oper} {o : Oper} {a b : Act} {w : World} {Q1 Q2 : Exit → Act → World → Prop} {D : Nat → Prop}

end

section
variable {l : List Oper} {w0 : World} {lt : List Nat} {F : (Nat → Prop) → Act → World → Prop} {ops : Array Oper} {C : World → Prop}

end

end

end Go.Proofs.YtiecpebckmihgaaGreat

set_option linter.unusedVariables false
namespace Go.Proofs.YtiecpebckmihgaaGreat
open Go.RowKit

section
open Go.ChangeShapes Go.WideShapes Go.Deep
theorem open_pts {H : Type} {enc : TypeId × Value → H} {P : Program} {w : World} {base B : Nat} {spare : Nat → Bool} {held : Bool} {t e : TypeId} {f0 f1 : Field} {v : Value} {d : DataW H} {pl : List MemPlace} (ht : P.underlying t = some (.slice e)) (he : P.underlying e = some (.struct #[f0, f1]))
    (ce : P.cellsOf e = 2) (o0 : f0.offset = 0) (o1 : f1.offset = 1) (c0 : P.cellsOf f0.type = 1) (c1 : P.cellsOf f1.type = 1) (i0 : P.underlying f0.type = some (.int .i64)) (i1 : P.underlying f1.type = some (.int .i64))
    (h : DataW.Trod enc P w base spare held t v d pl) (hv : Value.okWide P w .any B t v) : ∃ (A : Option Addr) (cap : Nat) (ps : List (Int × Int)), v = .slice A ps.length cap ∧ ps.length ≤ cap ∧ cap ≤ maxLen ∧ Pts w A ps := by
  simp only [Value.okWide, ht, Cell.okWide] at hv
  obtain ⟨fuel, h⟩ := h
  cases v with
  | slice A len cap =>
    rcases open_slice_pairs ht he ce o0 o1 c0 c1 h with ⟨e1, _⟩ | ⟨a, len', cap', m, n, V0, V1, D0, D1, P0, P1, e1, _, hl, hm, hmm, _, hx⟩
    · simp [Value.cells] at e1
      obtain ⟨rfl, rfl, rfl⟩ := e1
      exact ⟨none, 0, [], rfl, Nat.le_refl _, by decide, .inl rfl⟩
    · simp [Value.cells] at e1
      obtain ⟨rfl, rfl, rfl⟩ := e1
      have hspot : a.spot = none := by
        simp only [Cell.ok, ht] at hv
        exact hv.2.2.2.1
      have hlm : len ≤ m := by rw [hmm]; split <;> omega
      have each : ∀ i, i < len → ∃ x y : Int, V0 i = .int .i64 x ∧ V1 i = .int .i64 y := fun i hi => by
        obtain ⟨_, _, h3, h4⟩ := hx i (by omega)
        obtain ⟨x, hx1, _⟩ := DataW.trod_int i0 h3
        obtain ⟨y, hy1, _⟩ := DataW.trod_int i1 h4
        exact ⟨x, y, by simpa using hx1, by simpa using hy1⟩
      let ps : List (Int × Int) := (List.range len).map fun i => (intOf (V0 i), intOf (V1 i))
      have hlen : ps.length = len := by simp [ps]
      refine ⟨some a, cap, ps, by rw [hlen], by omega, hm, ?_⟩
      refine .inr ⟨a.block, a.off, by cases a; simp only at hspot; subst hspot; rfl, fun i hi => ?_⟩
      obtain ⟨x, y, ex, ey⟩ := each i (by omega)
      obtain ⟨h1, h2, _, _⟩ := hx i (by omega)
      have g0 : ps[i].1 = x := by simp [ps, ex, intOf]
      have g1 : ps[i].2 = y := by simp [ps, ey, intOf]
      rw [g0, g1, ← ex, ← ey]
      obtain ⟨ab, ao, asp⟩ := a
      simp only at hspot; subst hspot
      have ea : ∀ n, (Addr.mk ab ao none).add n = ⟨ab, ao + n, none⟩ := fun n => by
        unfold Addr.add; split
        · rename_i h0; subst h0; rfl
        · rfl
      rw [ea] at h1 h2
      exact ⟨h1, by rw [← Nat.add_assoc] at h2; exact h2⟩
  | _ => simp [Cell.ok, ht] at hv
end

end Go.Proofs.YtiecpebckmihgaaGreat

set_option linter.unusedVariables false
namespace Go.Proofs.YtiecpebckmihgaaGreat
open Go.RowKit

section
open Go.ChangeShapes Go.WideShapes Go.Deep
theorem open_pts2 {H : Type} {enc : TypeId × Value → H} {P : Program} {w : World} {base B : Nat} {spare : Nat → Bool} {held : Bool} {t e : TypeId} {f0 f1 : Field} {v : Value} {d : DataW H} {pl : List MemPlace} (ht : P.underlying t = some (.slice e)) (he : P.underlying e = some (.struct #[f0, f1]))
    (ce : P.cellsOf e = 2) (o0 : f0.offset = 0) (o1 : f1.offset = 1) (c0 : P.cellsOf f0.type = 1) (c1 : P.cellsOf f1.type = 1) (i0 : P.underlying f0.type = some (.int .i64)) (i1 : P.underlying f1.type = some (.int .i64))
    (h : DataW.Trod enc P w base spare held t v d pl) (hv : Value.okWide P w .any B t v) : ∃ (A : Option Addr) (cap : Nat) (ps : List (Int × Int)), v = .slice A ps.length cap ∧ ps.length ≤ cap ∧ cap ≤ maxLen ∧ Pts w A ps ∧ (A = none → cap = 0) := by
  obtain ⟨A, cap, ps, rfl, h1, h2, h3⟩ := open_pts ht he ce o0 o1 c0 c1 i0 i1 h hv
  refine ⟨A, cap, ps, rfl, h1, h2, h3, fun hA => ?_⟩
  subst hA
  simp only [Value.okWide, ht, Cell.okWide] at hv
  obtain ⟨fuel, h⟩ := h
  rcases open_slice_pairs ht he ce o0 o1 c0 c1 h with ⟨e1, _⟩ | ⟨a, len', cap', m, n, V0, V1, D0, D1, P0, P1, e1, _⟩
  · simp [Value.cells] at e1; exact e1.2
  · simp [Value.cells] at e1
end

end Go.Proofs.YtiecpebckmihgaaGreat

set_option linter.unusedVariables false
namespace Go.Proofs.YtiecpebckmihgaaGreat
open Go.RowKit Opn

section
open Go.ChangeShapes Go.WideShapes Go.Deep Go.Lib
theorem open_shape {H : Type} {enc : TypeId × Value → H} {P : Program} {w : World} {base B : Nat} {spare : Nat → Bool} {held : Bool} {t e : TypeId} {k0 k1 k2 f0 f1 : Field} {v : Value} {d : DataW H} {pl : List MemPlace}
    (hs : P.underlying t = some (.struct #[k0, k1, k2])) (hone : oneCellFields P #[k0, k1, k2] = true) (hC : P.cellsOf t = 3) (hct : P.cellTypes P.depth t = some [k0.type, k1.type, k2.type]) (u0 : P.underlying k0.type = some (.int .i64)) (u1 : P.underlying k1.type = some (.int .i64))
    (ht : P.underlying k2.type = some (.slice e)) (he : P.underlying e = some (.struct #[f0, f1]))
    (ce : P.cellsOf e = 2) (o0 : f0.offset = 0) (o1 : f1.offset = 1) (c0 : P.cellsOf f0.type = 1) (c1 : P.cellsOf f1.type = 1) (i0 : P.underlying f0.type = some (.int .i64)) (i1 : P.underlying f1.type = some (.int .i64))
    (h : DataW.Trod enc P w base spare held t v d pl) (hv : Value.okWide P w .any B t v) : ∃ (K R : Int) (A : Option Addr) (cap : Nat) (ps : List (Int × Int)), v = .agg #[.int .i64 K, .int .i64 R, .slice A ps.length cap] ∧ IntKind.i64.has K ∧ IntKind.i64.has R ∧ ps.length ≤ cap ∧ cap ≤ maxLen ∧ Pts w A ps ∧ (A = none → cap = 0) := by
  obtain ⟨v0, v1, v2, y0, y1, y2, n, rfl, _, _, _, _, h2⟩ := Go.Joins.open_agg3 hs hone hC hv h
  obtain ⟨cs, ecs, F0⟩ := open_flat (ts := [k0.type, k1.type, k2.type]) (by rw [hs]) hct hC hv
  obtain ⟨x0, cs0, rfl, C0, F1⟩ := fits_cons F0
  obtain ⟨x1, cs1, rfl, C1, F2⟩ := fits_cons F1
  obtain ⟨x2, cs2, rfl, C2, F3⟩ := fits_cons F2
  obtain rfl := fits_nil F3
  simp at ecs
  obtain ⟨rfl, rfl, rfl⟩ := ecs
  obtain ⟨K, rfl, bK⟩ := cell_int u0 C0
  obtain ⟨R, rfl, bR⟩ := cell_int u1 C1
  have hv2 : Value.okWide P w .any B k2.type v2 := by simp only [Value.okWide, ht]; exact C2
  have hsl : v2.cells = #[v2] := by
    simp only [Cell.okWide, ht] at C2
    cases v2 <;> simp_all [Cell.ok, Value.cells]
  obtain ⟨A, cap, ps, rfl, h3, h4, h5, h6⟩ := open_pts2 (pl := y2.2) (d := y2.1) ht he ce o0 o1 c0 c1 i0 i1 ⟨n, by rw [hsl]; exact h2⟩ hv2
  exact ⟨K, R, A, cap, ps, rfl, bK, bR, h3, h4, h5, h6⟩
end

end Go.Proofs.YtiecpebckmihgaaGreat

set_option linter.unusedVariables false
namespace Go.Proofs.YtiecpebckmihgaaGreat
open Go.RowKit

end Go.Proofs.YtiecpebckmihgaaGreat

